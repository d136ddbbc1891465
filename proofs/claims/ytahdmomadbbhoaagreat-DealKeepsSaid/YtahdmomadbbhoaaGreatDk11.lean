import Derived.Test.YtahdmomadbbhoaaGreatDk10
section
namespace Go.Proofs.YtahdmomadbbhoaaGreat
open Go.ChangeShapes Go.WideShapes Go.ChangeAt Go.RowKit
set_option linter.unusedVariables false
set_option linter.unusedSimpArgs false

def bigR (w w' : World) (e : Ending) (z : Int) : Prop := ∃ s A n c, e = .returned (.agg #[.bool s, .slice A n c]) ∧ Fr w.heap.size A n ∧ BigAt w' s A n c z
theorem bigR.of {w w' : World} {e : Ending} {z : Int} (h : ∃ A n c, e = .returned (.agg #[.bool (decide (z < 0)), .slice A n c]) ∧ Fr w.heap.size A n ∧ BigAt w' (decide (z < 0)) A n c z) : bigR w w' e z := ⟨_, h⟩
section
variable {w w1 w2 : World} {sx sy s : Bool} {A B C : Option Addr} {na nb n ca cb c : Nat} {x y z : Int}
theorem bneg' (hn : na ≤ 1000000) (hx : BigAt w sx A na ca x) :
    Calls Tryz.prog 36 #[.agg #[.bool sx, .slice A na ca]] w fun e w' => (∃ s n' c', e = .returned (.agg #[.bool s, .slice A n' c']) ∧ n' ≤ na ∧ BigAt w' s A n' c' (-x)) ∧ Below w.heap.size w w' := by
  obtain rfl := hx.neg_iff
  exact (bneg_any x A na ca w hn hx).mono fun e w' ⟨h, hb⟩ => ⟨⟨_, h⟩, hb⟩
theorem badd' (la : na ≤ 100000) (lb : nb ≤ 100000) (hx : BigAt w sx A na ca x) (hy : BigAt w sy B nb cb y) :
    Calls Tryz.prog 55 #[.agg #[.bool sx, .slice A na ca], .agg #[.bool sy, .slice B nb cb]] w fun e w' => bigR w w' e (x + y) ∧ Below w.heap.size w w' := by
  obtain rfl := hx.neg_iff
  obtain rfl := hy.neg_iff
  exact (badd_any x y A B na ca nb cb w la lb hx hy).mono fun e w' ⟨h, hb⟩ => ⟨bigR.of h, hb⟩
end

set_option maxRecDepth 100000 in
set_option maxHeartbeats 8000000 in
theorem bsub_any (x y : Int) (sx sy : Bool) (A B : Option Addr) (na ca nb cb : Nat) (w : World) (la : na ≤ 100000) (lb : nb ≤ 100000) (hx : BigAt w sx A na ca x) (hy : BigAt w sy B nb cb y) :
    Calls Tryz.prog 25 #[.agg #[.bool sx, .slice A na ca], .agg #[.bool sy, .slice B nb cb]] w fun e w' => bigR w w' e (x - y) ∧ Below w.heap.size w w' := by
  rw [Int.sub_eq_add_neg]
  have P1 : BB (((w.alloc (.cells #[.bool sx, .slice A na ca] 50)).alloc (.cells #[.bool sy, .slice B nb cb] 50)).alloc (.cells #[.bool false, .slice none 0 0] 50)) w.heap.size sx A na ca := ((BB.new _ _ _ _ _ _).alloc _).alloc _
  have P2 : BB (((w.alloc (.cells #[.bool sx, .slice A na ca] 50)).alloc (.cells #[.bool sy, .slice B nb cb] 50)).alloc (.cells #[.bool false, .slice none 0 0] 50)) (w.heap.size + 1) sy B nb cb := by
    have := (BB.new (w.alloc (.cells #[.bool sx, .slice A na ca] 50)) sy B nb cb 50).alloc (.cells #[.bool false, .slice none 0 0] 50)
    rwa [World.size_alloc] at this
  have P3 : BB (((w.alloc (.cells #[.bool sx, .slice A na ca] 50)).alloc (.cells #[.bool sy, .slice B nb cb] 50)).alloc (.cells #[.bool false, .slice none 0 0] 50)) (w.heap.size + 1 + 1) false none 0 0 := by
    have := BB.new ((w.alloc (.cells #[.bool sx, .slice A na ca] 50)).alloc (.cells #[.bool sy, .slice B nb cb] 50)) false none 0 0 50
    rwa [World.size_alloc, World.size_alloc] at this
  have hB0 : Below w.heap.size w (((w.alloc (.cells #[.bool sx, .slice A na ca] 50)).alloc (.cells #[.bool sy, .slice B nb cb] 50)).alloc (.cells #[.bool false, .slice none 0 0] 50)) := since_alloc (since_alloc (since_alloc (Below.refl _ w) _) _) _
  have X0 := hx.below hB0
  have Y0 := hy.below hB0
  clear hx hy
  have hcs := @cell_set
  have hlt1 := P3.1
  go_enter Tryz.func25, Tryz.ntmps25
  go_wp2
  generalize (((w.alloc (.cells #[.bool sx, .slice A na ca] 50)).alloc (.cells #[.bool sy, .slice B nb cb] 50)).alloc (.cells #[.bool false, .slice none 0 0] 50)) = W0 at *
  obtain ⟨p10, p11, p12, p13, p14⟩ := _root_.id P1
  obtain ⟨p20, p21, p22, p23, p24⟩ := _root_.id P2
  go_region_with (first
    | (go_at_call 36; refine (bneg' (w := W0.drew) (by omega) Y0.drew).mono ?_; rintro e w1 ⟨⟨s1, n1, c1, rfl, hn1, hbig1⟩, hb1⟩; obtain ⟨r0, r1, r2, r3, r4⟩ := P1.drew.below hb1; have Q3 := P3.drew.below hb1; have X1 := X0.drew.below hb1; have hB1 := since_step hB0.drew hb1; clear hb1)
    | (go_at_call 55; refine (badd' (w := w1) la (by omega) X1 hbig1).mono ?_; rintro e w2 ⟨⟨s2, A2, n2, c2, rfl, hfr, hbig⟩, hb2⟩; obtain ⟨q0, q1, q2, q3, q4⟩ := Q3.below hb2; have hB2 := since_step hB1 hb2; have hz1 := Q3.1; clear hb2))
  all_goals
    go_wp2
    refine bodyPost_ret (v := .agg #[.bool s2, .slice A2 n2 c2]) ?_ rfl ?_
    · simp [results, Tryz.results25, go_sem, cell_set, q1, q2]
    · refine ⟨⟨s2, A2, n2, c2, rfl, hfr.le hB1.size (Nat.le_refl _), ?_⟩, ?_⟩
      · exact (hbig.far (fun b o hA h0 => by have := hfr b o hA h0; simp; omega) _).far (fun b o hA h0 => by have := hfr b o hA h0; simp; omega) _
      · repeat' (first | with_reducible exact hB2 | with_reducible refine Below.setCell ?_ ?_ _)
        all_goals first | (simp; done) | (simp; omega)
def cmpZ (x y : Int) : Int := if x = y then 0 else if x < y then -1 else 1
set_option maxRecDepth 100000 in
set_option maxHeartbeats 4000000 in
theorem bcmp_any (x y : Int) (sx sy : Bool) (A B : Option Addr) (na ca nb cb : Nat) (w : World) (la : na ≤ 100000) (lb : nb ≤ 100000) (hx : BigAt w sx A na ca x) (hy : BigAt w sy B nb cb y) :
    Calls Tryz.prog 27 #[.agg #[.bool sx, .slice A na ca], .agg #[.bool sy, .slice B nb cb]] w fun e w' => e = .returned (.int .i64 (cmpZ x y)) ∧ Below w.heap.size w w' := by
  have hB0 : Below w.heap.size w ((w.alloc (.cells #[.bool sx, .slice A na ca] 50)).alloc (.cells #[.bool sy, .slice B nb cb] 50)) := since_alloc (since_alloc (Below.refl _ w) _) _
  have X0 := hx.below hB0
  have Y0 := hy.below hB0
  clear hx hy
  go_enter Tryz.func27, Tryz.ntmps27
  go_wp2_with fail
  refine (bsub_any x y sx sy A B na ca nb cb _ la lb X0 Y0).mono ?_
  rintro e w1 ⟨⟨s, C, n, c, rfl, hfr, hz⟩, hb1⟩
  have hB1 := since_step hB0 hb1
  have hs := hz.neg_iff
  have hn0 : n ≤ 0 ↔ (x - y).natAbs < 1 := hz.len (k := 0)
  have hv : cmpZ x y = if n = 0 then 0 else if s = true then -1 else 1 := by
    unfold cmpZ
    rw [hs]
    clear hb1 hB1 hz hfr
    by_cases h1 : x = y
    · have hn : n = 0 := by have := hn0.2 (by omega); omega
      simp [h1, hn]
    · have hn : ¬ n = 0 := by intro e; have := hn0.1 (by omega); omega
      by_cases h2 : x < y
      · have h3 : x - y < 0 := by omega
        simp [h1, hn, h2, h3]
      · have h3 : ¬ x - y < 0 := by omega
        simp [h1, hn, h2, h3]
  have HV := Lib.hid hv
  clear hv hs hn0 hb1 hz hfr
  rcases Nat.eq_zero_or_pos n with h0 | h0
  · subst h0
    go_wp2
    go_ret
    exact ⟨retI (by rw [HV.out]; rfl), since_alloc hB1 _⟩
  · have hne : ((n : Int) == 0) = false := by simp; omega
    have HNE := Lib.hid (show ¬ n = 0 by omega)
    cases s
    all_goals
      go_wp2
      go_ret
      exact ⟨retI (by rw [HV.out, if_neg HNE.out]; rfl), since_alloc hB1 _⟩
theorem norm_plus {a b out : List Nat} (ha : Norm a) (hb : Norm b) (ho : Bin out) (hv : bval out = bval a + bval b) (hl : out.length = max a.length b.length ∨ (out.length = max a.length b.length + 1 ∧ 2 ^ max a.length b.length ≤ bval out)) : Norm out := by
  rcases hl with hl | ⟨hl, hge⟩
  · rcases Nat.eq_zero_or_pos out.length with h0 | h0
    · rw [List.eq_nil_of_length_eq_zero h0]; exact Norm.nil
    · obtain ⟨k, hk⟩ : ∃ k, out.length = k + 1 := ⟨out.length - 1, by omega⟩
      refine norm_of_ge ho hk ?_
      rcases Nat.le_total a.length b.length with h | h
      · have := hb.ge (k := k) (by omega)
        omega
      · have := ha.ge (k := k) (by omega)
        omega
  · exact norm_of_ge ho hl hge
theorem big_field (s : Bool) (A : Option Addr) (n c : Nat) (W : World) : (Instr.field 50 (.agg #[.bool s, .slice A n c]) 1).run Tryz.prog W = .ok (.slice A n c) W := by kernel_rfl
set_option maxRecDepth 100000 in
set_option maxHeartbeats 4000000 in
theorem bof_any (x : Int) (w : World) (hx : -9223372036854775808 ≤ x ∧ x ≤ 9223372036854775807) :
    Calls Tryz.prog 26 #[.int .i64 x] w fun e w' => bigR w w' e x ∧ Below w.heap.size w w' := by
  have P0 := BB.new w false none 0 0 50
  have hB0 : Below w.heap.size w (w.alloc (.cells #[.bool false, .slice none 0 0] 50)) := since_alloc (Below.refl _ w) _
  have hcs := @cell_set
  by_cases h0 : 0 ≤ x
  · obtain ⟨u, rfl⟩ := Int.eq_ofNat_of_zero_le h0
    have ew : IntKind.u64.wrap (u : Int) = (u : Int) := by rw [IntKind.wrap_u64]; omega
    go_enter Tryz.func26, Tryz.ntmps26
    go_wp2_with fail
    refine (nat_any u _ (by omega)).mono ?_
    rintro e w1 ⟨⟨A1, n1, c1, rfl, hfr, hbig⟩, hb1⟩
    obtain ⟨q0, q1, q2, q3, q4⟩ := P0.below hb1
    have hB1 := since_step hB0 hb1
    clear hb1 P0
    go_wp2
    refine bodyPost_ret (v := .agg #[.bool false, .slice A1 n1 c1]) ?_ rfl ?_
    · simp [results, Tryz.results26, go_sem, cell_set, q1, q2]
    · refine ⟨⟨false, A1, n1, c1, rfl, hfr.le hB0.size (Nat.le_refl _), ?_⟩, ?_⟩
      · exact (hbig.far (fun b o hA h0 => by have := hfr b o hA h0; simp at this ⊢; omega) _).far (fun b o hA h0 => by have := hfr b o hA h0; simp at this ⊢; omega) _
      · repeat' (first | with_reducible exact hB1 | with_reducible refine Below.setCell ?_ ?_ _)
        all_goals first | (simp; done) | (simp; omega)
  · obtain ⟨u, rfl⟩ : ∃ u : Nat, x = -((u : Int) + 1) := ⟨(-x - 1).toNat, by omega⟩
    have hu : u < 9223372036854775808 := by omega
    have ew : IntKind.u64.wrap (u : Int) = (u : Int) := by rw [IntKind.wrap_u64]; omega
    clear hx
    have hfd := big_field
    go_enter Tryz.func26, Tryz.ntmps26
    go_wp2_with fail
    rw [show -(-((u : Int) + 1) + 1) = (u : Int) from by omega]
    refine (nat_any u _ (by omega)).mono ?_
    rintro e w1 ⟨⟨A1, n1, c1, rfl, hfr, hbig⟩, hb1⟩
    have Q0 := P0.below hb1
    have hB1 := since_step hB0 hb1
    have hn1 : n1 ≤ 64 := (hbig.len (k := 64)).2 (by simp; omega)
    obtain ⟨bits, h1, h2, h3, h4, h5, h6, h7⟩ := hbig.ex
    have hv1 : (u : Int) = bval bits := by simpa using h7
    have HV1 := Lib.hid hv1
    subst h1
    clear hb1 P0 hv1 h7 h6 hbig
    go_wp2_with fail
    have norm1 : Norm [1] := ⟨fun b hb => by simp at hb; omega, fun k hk hl => by simp at hk; subst hk; rfl⟩
    refine (bplus_any A1 (some ⟨w1.heap.size, 0, none⟩) c1 1 bits [1] _ (by omega) (by simp) h5.1 norm1.1 (h4.alloc _) (Sl.new_ _ _ _)).mono ?_
    rintro e w2 ⟨⟨A2, c2, out, rfl, ⟨hcap, hs2, hbin, hfr2⟩, hv, hlen⟩, hb2⟩
    have hN := norm_plus h5 norm1 hbin hv hlen
    have hv2 : bval out = bval bits + 1 := by rw [hv]; rfl
    have HV2 := Lib.hid hv2
    obtain ⟨q0, q1, q2, q3, q4⟩ := (Q0.alloc (.cells #[.int .u8 1] 5)).below hb2
    have hB2 := since_step (since_alloc hB1 _) hb2
    have hz1 := Q0.1
    have HL := Lib.hid hlen
    clear hb2 hv hv2 hlen Q0
    go_wp2
    refine bodyPost_ret (v := .agg #[.bool true, .slice A2 out.length c2]) ?_ rfl ?_
    · simp [results, Tryz.results26, go_sem, cell_set, q1, q2]
    · have hbig : BigAt w2 true A2 out.length c2 (-((u : Int) + 1)) := ⟨out, rfl, hcap.1, hcap.2, hs2, hN, fun _ e => by subst e; have := HV2.out; simp [bval] at this, by have := HV1.out; have := HV2.out; simp; omega⟩
      have hfr3 : Fr w.heap.size A2 out.length := hfr2.le (by have := hB1.size; simp; omega) (Nat.le_refl _)
      have hne : ∀ b o, A2 = some ⟨b, o, none⟩ → 0 < out.length → b ≠ w.heap.size := fun b o hA h0 => by have := hfr2 b o hA h0; simp at this; omega
      refine ⟨⟨true, A2, out.length, c2, rfl, hfr3, ?_⟩, ?_⟩
      · exact (hbig.far (fun b o hA h0 => by have := hne b o hA h0; simpa using this) _).far (fun b o hA h0 => by have := hne b o hA h0; simpa using this) _
      · repeat' (first | with_reducible exact hB2 | with_reducible refine Below.setCell ?_ ?_ _)
        all_goals first | (simp; done) | (simp; omega)
def inN (x : Int) (m : Nat) : Prop := (if x < 0 then (x + 1).natAbs else x.natAbs) < 2 ^ m
instance (x : Int) (m : Nat) : Decidable (inN x m) := by unfold inN; infer_instance
end Go.Proofs.YtahdmomadbbhoaaGreat
end
