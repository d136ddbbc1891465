import Derived.BigRegion
import Derived.Deep.RegionWith
import Derived.Test.YtlbccpiadmcpjaaCv08
section
namespace Go.Proofs.Ytlbccpiadmcpjaa
open Go.ChangeShapes Go.WideShapes Go.ChangeAt Go.RowKit
set_option linter.unusedVariables false
set_option linter.unusedSimpArgs false

def BB (w : World) (g : Nat) (s : Bool) (A : Option Addr) (n c : Nat) : Prop := g < w.heap.size ∧ w.cell? ⟨g, 0, none⟩ = some (.bool s) ∧ w.cell? ⟨g, 1, none⟩ = some (.slice A n c) ∧ w.frozen? ⟨g, 0, none⟩ = false ∧ w.frozen? ⟨g, 1, none⟩ = false
section
variable {w w' : World} {g : Nat} {s : Bool} {A : Option Addr} {n c : Nat}
theorem BB.new (w : World) (s : Bool) (A : Option Addr) (n c : Nat) (t : TypeId) : BB (w.alloc (.cells #[.bool s, .slice A n c] t)) w.heap.size s A n c := by
  refine ⟨by simp, ?_, ?_, ?_, ?_⟩ <;> simp
theorem BB.below (h : BB w g s A n c) (hb : Below w.heap.size w w') : BB w' g s A n c := by
  obtain ⟨h0, h1, h2, f1, f2⟩ := h
  exact ⟨Nat.lt_of_lt_of_le h0 hb.size, (hb.cell (p := ⟨g, 0, none⟩) h0).trans h1, (hb.cell (p := ⟨g, 1, none⟩) h0).trans h2, (hb.frozen (p := ⟨g, 0, none⟩) h0).trans f1, (hb.frozen (p := ⟨g, 1, none⟩) h0).trans f2⟩
theorem BB.alloc (h : BB w g s A n c) (o : Obj) : BB (w.alloc o) g s A n c := h.below ((Below.refl _ _).alloc (Nat.le_refl _) o)
theorem BB.drew (h : BB w g s A n c) : BB w.drew g s A n c := h
end
theorem BigAt.lt {w : World} {neg : Bool} {A : Option Addr} {n c : Nat} {z : Int} (h : BigAt w neg A n c z) : ∀ b o, A = some ⟨b, o, none⟩ → 0 < n → b < w.heap.size := by
  intro b o hA hn
  obtain ⟨bits, h1, h2, h3, h4, _⟩ := h.ex
  obtain ⟨b', o', e, hc⟩ := h4.byte (j := 0) (by omega)
  rw [hA] at e
  injection e with e
  injection e with e1 e2
  subst e1
  exact World.block_lt_of_cell? _ _ hc
theorem add_same {s : Bool} {x y : Int} {p q v : Nat} (hx : x = if s = true then -(p : Int) else (p : Int)) (hy : y = if s = true then -(q : Int) else (q : Int)) (hv : v = p + q) : x + y = if s = true then -(v : Int) else (v : Int) := by
  subst hx; subst hy; subst hv; cases s <;> simp <;> omega
theorem add_lt {s t : Bool} {x y : Int} {p q v : Nat} (h : (s == t) = false) (hx : x = if s = true then -(p : Int) else (p : Int)) (hy : y = if t = true then -(q : Int) else (q : Int)) (hl : p < q) (hv : v = q - p) : x + y = if t = true then -(v : Int) else (v : Int) := by
  subst hx; subst hy; subst hv
  cases s <;> cases t <;> simp at h ⊢ <;> omega
theorem add_ge {s t : Bool} {x y : Int} {p q v : Nat} (h : (s == t) = false) (hx : x = if s = true then -(p : Int) else (p : Int)) (hy : y = if t = true then -(q : Int) else (q : Int)) (hl : ¬ p < q) (hv : v = p - q) : x + y = if s = true then -(v : Int) else (v : Int) := by
  subst hx; subst hy; subst hv
  cases s <;> cases t <;> simp at h ⊢ <;> omega
set_option maxHeartbeats 1000000 in
theorem bneg_any (x : Int) (A : Option Addr) (n c : Nat) (w : World) (hn : n ≤ 1000000) (hx : BigAt w (decide (x < 0)) A n c x) :
    Calls Try.prog 82 #[.agg #[.bool (decide (x < 0)), .slice A n c]] w fun e w' => (∃ n' c', e = .returned (.agg #[.bool (decide (-x < 0)), .slice A n' c']) ∧ n' ≤ n ∧ BigAt w' (decide (-x < 0)) A n' c' (-x)) ∧ Below w.heap.size w w' := by
  have hlt := hx.lt
  obtain ⟨bits, h1, h2, h3, h4, h5, h6, h7⟩ := hx.ex
  generalize hX : decide (x < 0) = sx at *
  clear hX hx h6
  subst h1
  have hz : -x = if (!sx) = true then -(bval bits : Int) else (bval bits : Int) := by rw [h7]; cases sx <;> simp
  have HZ := Lib.hid hz
  clear hz h7
  have P2 : BB ((w.alloc (.cells #[.bool sx, .slice A bits.length c] 69)).alloc (.cells #[.bool false, .slice none 0 0] 69)) (w.heap.size + 1) false none 0 0 := by
    have := BB.new (w.alloc (.cells #[.bool sx, .slice A bits.length c] 69)) false none 0 0 69
    rwa [World.size_alloc] at this
  have hcs := @cell_set
  go_enter Try.func82, Try.ntmps82
  go_wp2_with fail
  refine (trim_any (!sx) A c bits (-x) HZ.out _ hn ⟨h2, h3⟩ h5.1 ((h4.alloc _).alloc _)).mono ?_
  rintro e w1 ⟨⟨n', c', rfl, hn', hbig⟩, hb1⟩
  have hB1 := since_step (since_alloc (since_alloc (Below.refl _ w) _) _) hb1
  obtain ⟨q0, q1, q2, q3, q4⟩ := P2.below hb1
  clear hb1 P2
  generalize hs2 : decide (-x < 0) = s2 at *
  have HS2 := Lib.hid hs2
  clear hs2
  go_wp2
  refine bodyPost_ret (v := .agg #[.bool s2, .slice A n' c']) ?_ rfl ?_
  · simp [results, Try.results82, go_sem, cell_set, q1, q2]
  · rw [HS2.out]
    refine ⟨⟨n', c', rfl, hn', ?_⟩, ?_⟩
    · exact (hbig.far (fun b o hA h0 => by have := hlt b o hA (by omega); simp; omega) _).far (fun b o hA h0 => by have := hlt b o hA (by omega); simp; omega) _
    · repeat' (first | with_reducible exact hB1 | with_reducible refine Below.setCell ?_ ?_ _)
      all_goals first | (simp; done) | (simp; omega)
set_option maxHeartbeats 20000000 in
theorem badd_any (x y : Int) (A B : Option Addr) (na ca nb cb : Nat) (w : World) (la : na ≤ 100000) (lb : nb ≤ 100000) (hx : BigAt w (decide (x < 0)) A na ca x) (hy : BigAt w (decide (y < 0)) B nb cb y) :
    Calls Try.prog 32 #[.agg #[.bool (decide (x < 0)), .slice A na ca], .agg #[.bool (decide (y < 0)), .slice B nb cb]] w fun e w' => (∃ A' n' c', e = .returned (.agg #[.bool (decide (x + y < 0)), .slice A' n' c']) ∧ Fr w.heap.size A' n' ∧ BigAt w' (decide (x + y < 0)) A' n' c' (x + y)) ∧ Below w.heap.size w w' := by
  obtain ⟨a, h1, h2, h3, h4, h5, h6, h7⟩ := hx.ex
  obtain ⟨b, k1, k2, k3, k4, k5, k6, k7⟩ := hy.ex
  generalize decide (x < 0) = sx at *
  generalize decide (y < 0) = sy at *
  clear hx hy h6 k6
  have P1 : BB (((w.alloc (.cells #[.bool sx, .slice A na ca] 69)).alloc (.cells #[.bool sy, .slice B nb cb] 69)).alloc (.cells #[.bool false, .slice none 0 0] 69)) w.heap.size sx A na ca := ((BB.new _ _ _ _ _ _).alloc _).alloc _
  have P2 : BB (((w.alloc (.cells #[.bool sx, .slice A na ca] 69)).alloc (.cells #[.bool sy, .slice B nb cb] 69)).alloc (.cells #[.bool false, .slice none 0 0] 69)) (w.heap.size + 1) sy B nb cb := by
    have := (BB.new (w.alloc (.cells #[.bool sx, .slice A na ca] 69)) sy B nb cb 69).alloc (.cells #[.bool false, .slice none 0 0] 69)
    rwa [World.size_alloc] at this
  have P3 : BB (((w.alloc (.cells #[.bool sx, .slice A na ca] 69)).alloc (.cells #[.bool sy, .slice B nb cb] 69)).alloc (.cells #[.bool false, .slice none 0 0] 69)) (w.heap.size + 1 + 1) false none 0 0 := by
    have := BB.new ((w.alloc (.cells #[.bool sx, .slice A na ca] 69)).alloc (.cells #[.bool sy, .slice B nb cb] 69)) false none 0 0 69
    rwa [World.size_alloc, World.size_alloc] at this
  have hB0 : Below w.heap.size w (((w.alloc (.cells #[.bool sx, .slice A na ca] 69)).alloc (.cells #[.bool sy, .slice B nb cb] 69)).alloc (.cells #[.bool false, .slice none 0 0] 69)) := since_alloc (since_alloc (since_alloc (Below.refl _ w) _) _) _
  have S1 := h4.below hB0
  have S2 := k4.below hB0
  have hcs := @cell_set
  have hlt1 := P3.1
  subst h1; subst k1
  have H7 := Lib.hid h7
  have K7 := Lib.hid k7
  clear h7 k7
  go_enter Try.func32, Try.ntmps32
  by_cases hss : sx = sy
  · subst hss
    have hsb : (sx == sx) = true := by simp
    have HLT := Lib.hid (show True from trivial)
    go_wp2
    generalize (((w.alloc (.cells #[.bool sx, .slice A a.length ca] 69)).alloc (.cells #[.bool sx, .slice B b.length cb] 69)).alloc (.cells #[.bool false, .slice none 0 0] 69)) = W0 at *
    obtain ⟨p10, p11, p12, p13, p14⟩ := _root_.id P1
    obtain ⟨p20, p21, p22, p23, p24⟩ := _root_.id P2
    go_region_with (first
      | (go_at_call 46; refine (bplus_any A B ca cb a b W0.drew (by omega) (by omega) h5.1 k5.1 S1.drew S2.drew).mono ?_; rintro e w1 ⟨⟨A1, c1, out, rfl, ⟨hcap, hs1, hbin, hfr⟩, hv, hlen⟩, hb1⟩; obtain ⟨r0, r1, r2, r3, r4⟩ := P1.drew.below hb1; have Q3 := P3.drew.below hb1; have hB1 := since_step hB0.drew hb1; have HV := Lib.hid hv; have HLN := Lib.hid hlen; clear hb1 hv hlen)
      | (go_at_call 50; refine (trim_any sx A1 c1 out (x + y) (add_same H7.out K7.out HV.out) _ (by have := HLN.out; omega) hcap hbin hs1).mono ?_; rintro e w2 ⟨⟨n2, c2, rfl, hn2, hbig⟩, hb2⟩; obtain ⟨q0, q1, q2, q3, q4⟩ := Q3.below hb2; have hB2 := since_step hB1 hb2; clear hb2; generalize hs2 : decide (x + y < 0) = s2 at *; have HS2 := Lib.hid hs2; clear hs2))
    all_goals
      go_wp2
      refine bodyPost_ret (v := .agg #[.bool s2, .slice A1 n2 c2]) ?_ rfl ?_
      · simp [results, Try.results32, go_sem, cell_set, q1, q2]
      · rw [HS2.out]
        refine ⟨⟨A1, n2, c2, rfl, hfr.le hB0.size hn2, ?_⟩, ?_⟩
        · exact (hbig.far (fun b o hA h0 => by have := hfr b o hA (by omega); simp only [World.size_drew] at this; simp; omega) _).far (fun b o hA h0 => by have := hfr b o hA (by omega); simp only [World.size_drew] at this; simp; omega) _
        · repeat' (first | with_reducible exact hB2 | with_reducible refine Below.setCell ?_ ?_ _)
          all_goals first | (simp; done) | (simp; omega)
  · have hsb : (sx == sy) = false := by simpa using hss
    have HSB := Lib.hid hsb
    clear hss
    go_wp2_with fail
    generalize (((w.alloc (.cells #[.bool sx, .slice A a.length ca] 69)).alloc (.cells #[.bool sy, .slice B b.length cb] 69)).alloc (.cells #[.bool false, .slice none 0 0] 69)) = W0 at *
    obtain ⟨p10, p11, p12, p13, p14⟩ := _root_.id P1
    obtain ⟨p20, p21, p22, p23, p24⟩ := _root_.id P2
    refine (bless_any A B ca cb a b _ (by omega) (by omega) h5 k5 S1 S2).mono ?_
    rintro e wl ⟨rfl, hbl⟩
    have P1 := P1.below hbl
    have P2 := P2.below hbl
    have P3 := P3.below hbl
    have S1 := S1.below hbl
    have S2 := S2.below hbl
    have hlt1 := P3.1
    have hB0 := since_step hB0 hbl
    clear hbl p10 p11 p12 p13 p14 p20 p21 p22 p23 p24
    obtain ⟨p10, p11, p12, p13, p14⟩ := _root_.id P1
    obtain ⟨p20, p21, p22, p23, p24⟩ := _root_.id P2
    by_cases hl : bval a < bval b
    · have HLT := Lib.hid hl
      have HLE := Lib.hid (Nat.le_of_lt hl)
      have HLEN := Lib.hid (show a.length ≤ b.length from Decidable.byContradiction fun h => by have := k5.lt_len h5 (by omega); omega)
      have hd : decide (bval a < bval b) = true := decide_eq_true hl
      rw [hd]
      clear hl hd
      go_wp2
      go_region_with (first
        | (go_at_call 52; refine (bminus_any B A cb ca b a wl.drew (by omega) HLEN.out k5.1 h5.1 HLE.out S2.drew S1.drew).mono ?_; rintro e w1 ⟨⟨A1, c1, out, rfl, ⟨hcap, hs1, hbin, hfr⟩, hv, hlen⟩, hb1⟩; obtain ⟨r0, r1, r2, r3, r4⟩ := P2.drew.below hb1; have Q3 := P3.drew.below hb1; have hB1 := since_step hB0.drew hb1; have HV := Lib.hid hv; have HLN := Lib.hid hlen; clear hb1 hv hlen)
        | (go_at_call 50; refine (trim_any sy A1 c1 out (x + y) (add_lt HSB.out H7.out K7.out HLT.out HV.out) _ (by have := HLN.out; omega) hcap hbin hs1).mono ?_; rintro e w2 ⟨⟨n2, c2, rfl, hn2, hbig⟩, hb2⟩; obtain ⟨q0, q1, q2, q3, q4⟩ := Q3.below hb2; have hB2 := since_step hB1 hb2; clear hb2; generalize hs2 : decide (x + y < 0) = s2 at *; have HS2 := Lib.hid hs2; clear hs2))
      all_goals
        go_wp2
        refine bodyPost_ret (v := .agg #[.bool s2, .slice A1 n2 c2]) ?_ rfl ?_
        · simp [results, Try.results32, go_sem, cell_set, q1, q2]
        · rw [HS2.out]
          refine ⟨⟨A1, n2, c2, rfl, hfr.le hB0.size hn2, ?_⟩, ?_⟩
          · exact (hbig.far (fun b o hA h0 => by have := hfr b o hA (by omega); simp only [World.size_drew] at this; simp; omega) _).far (fun b o hA h0 => by have := hfr b o hA (by omega); simp only [World.size_drew] at this; simp; omega) _
          · repeat' (first | with_reducible exact hB2 | with_reducible refine Below.setCell ?_ ?_ _)
            all_goals first | (simp; done) | (simp; omega)
    · have HLT := Lib.hid hl
      have HLE := Lib.hid (Nat.le_of_not_lt hl)
      have HLEN := Lib.hid (show b.length ≤ a.length from Decidable.byContradiction fun h => hl (h5.lt_len k5 (by omega)))
      have hd : decide (bval a < bval b) = false := decide_eq_false hl
      rw [hd]
      clear hl hd
      go_wp2
      go_region_with (first
        | (go_at_call 52; refine (bminus_any A B ca cb a b wl.drew (by omega) HLEN.out h5.1 k5.1 HLE.out S1.drew S2.drew).mono ?_; rintro e w1 ⟨⟨A1, c1, out, rfl, ⟨hcap, hs1, hbin, hfr⟩, hv, hlen⟩, hb1⟩; obtain ⟨r0, r1, r2, r3, r4⟩ := P1.drew.below hb1; have Q3 := P3.drew.below hb1; have hB1 := since_step hB0.drew hb1; have HV := Lib.hid hv; have HLN := Lib.hid hlen; clear hb1 hv hlen)
        | (go_at_call 50; refine (trim_any sx A1 c1 out (x + y) (add_ge HSB.out H7.out K7.out HLT.out HV.out) _ (by have := HLN.out; omega) hcap hbin hs1).mono ?_; rintro e w2 ⟨⟨n2, c2, rfl, hn2, hbig⟩, hb2⟩; obtain ⟨q0, q1, q2, q3, q4⟩ := Q3.below hb2; have hB2 := since_step hB1 hb2; clear hb2; generalize hs2 : decide (x + y < 0) = s2 at *; have HS2 := Lib.hid hs2; clear hs2))
      all_goals
        go_wp2
        refine bodyPost_ret (v := .agg #[.bool s2, .slice A1 n2 c2]) ?_ rfl ?_
        · simp [results, Try.results32, go_sem, cell_set, q1, q2]
        · rw [HS2.out]
          refine ⟨⟨A1, n2, c2, rfl, hfr.le hB0.size hn2, ?_⟩, ?_⟩
          · exact (hbig.far (fun b o hA h0 => by have := hfr b o hA (by omega); simp only [World.size_drew] at this; simp; omega) _).far (fun b o hA h0 => by have := hfr b o hA (by omega); simp only [World.size_drew] at this; simp; omega) _
          · repeat' (first | with_reducible exact hB2 | with_reducible refine Below.setCell ?_ ?_ _)
            all_goals first | (simp; done) | (simp; omega)
end Go.Proofs.Ytlbccpiadmcpjaa
end
