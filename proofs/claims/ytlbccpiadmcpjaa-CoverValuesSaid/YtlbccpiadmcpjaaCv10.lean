import Derived.Test.YtlbccpiadmcpjaaCv09
section
namespace Go.Proofs.Ytlbccpiadmcpjaa
open Go.ChangeShapes Go.WideShapes Go.ChangeAt Go.RowKit
set_option linter.unusedVariables false
set_option linter.unusedSimpArgs false

def bigR (w w' : World) (e : Ending) (z : Int) : Prop := ∃ s A n c, e = .returned (.agg #[.bool s, .slice A n c]) ∧ Fr w.heap.size A n ∧ BigAt w' s A n c z
theorem bigR.of {w w' : World} {e : Ending} {z : Int} (h : ∃ A n c, e = .returned (.agg #[.bool (decide (z < 0)), .slice A n c]) ∧ Fr w.heap.size A n ∧ BigAt w' (decide (z < 0)) A n c z) : bigR w w' e z := ⟨_, h⟩
section
variable {w w1 w2 : World} {sx sy s : Bool} {A B C : Option Addr} {na nb n ca cb c : Nat} {x y z : Int}
theorem bneg' (hn : na ≤ 1000000) (hx : BigAt w sx A na ca x) :
    Calls Try.prog 82 #[.agg #[.bool sx, .slice A na ca]] w fun e w' => (∃ s n' c', e = .returned (.agg #[.bool s, .slice A n' c']) ∧ n' ≤ na ∧ BigAt w' s A n' c' (-x)) ∧ Below w.heap.size w w' := by
  obtain rfl := hx.neg_iff
  exact (bneg_any x A na ca w hn hx).mono fun e w' ⟨h, hb⟩ => ⟨⟨_, h⟩, hb⟩
theorem badd' (la : na ≤ 100000) (lb : nb ≤ 100000) (hx : BigAt w sx A na ca x) (hy : BigAt w sy B nb cb y) :
    Calls Try.prog 32 #[.agg #[.bool sx, .slice A na ca], .agg #[.bool sy, .slice B nb cb]] w fun e w' => bigR w w' e (x + y) ∧ Below w.heap.size w w' := by
  obtain rfl := hx.neg_iff
  obtain rfl := hy.neg_iff
  exact (badd_any x y A B na ca nb cb w la lb hx hy).mono fun e w' ⟨h, hb⟩ => ⟨bigR.of h, hb⟩
end

set_option maxRecDepth 100000 in
set_option maxHeartbeats 8000000 in
theorem bsub_any (x y : Int) (sx sy : Bool) (A B : Option Addr) (na ca nb cb : Nat) (w : World) (la : na ≤ 100000) (lb : nb ≤ 100000) (hx : BigAt w sx A na ca x) (hy : BigAt w sy B nb cb y) :
    Calls Try.prog 66 #[.agg #[.bool sx, .slice A na ca], .agg #[.bool sy, .slice B nb cb]] w fun e w' => bigR w w' e (x - y) ∧ Below w.heap.size w w' := by
  rw [Int.sub_eq_add_neg]
  have P1 : BB (((w.alloc (.cells #[.bool sx, .slice A na ca] 69)).alloc (.cells #[.bool sy, .slice B nb cb] 69)).alloc (.cells #[.bool false, .slice none 0 0] 69)) w.heap.size sx A na ca := ((BB.new _ _ _ _ _ _).alloc _).alloc _
  have P2 : BB (((w.alloc (.cells #[.bool sx, .slice A na ca] 69)).alloc (.cells #[.bool sy, .slice B nb cb] 69)).alloc (.cells #[.bool false, .slice none 0 0] 69)) (w.heap.size + 1) sy B nb cb := by
    have := (BB.new (w.alloc (.cells #[.bool sx, .slice A na ca] 69)) sy B nb cb 69).alloc (.cells #[.bool false, .slice none 0 0] 69)
    rwa [World.size_alloc] at this
  have P3 : BB (((w.alloc (.cells #[.bool sx, .slice A na ca] 69)).alloc (.cells #[.bool sy, .slice B nb cb] 69)).alloc (.cells #[.bool false, .slice none 0 0] 69)) (w.heap.size + 1 + 1) false none 0 0 := by
    have := BB.new ((w.alloc (.cells #[.bool sx, .slice A na ca] 69)).alloc (.cells #[.bool sy, .slice B nb cb] 69)) false none 0 0 69
    rwa [World.size_alloc, World.size_alloc] at this
  have hB0 : Below w.heap.size w (((w.alloc (.cells #[.bool sx, .slice A na ca] 69)).alloc (.cells #[.bool sy, .slice B nb cb] 69)).alloc (.cells #[.bool false, .slice none 0 0] 69)) := since_alloc (since_alloc (since_alloc (Below.refl _ w) _) _) _
  have X0 := hx.below hB0
  have Y0 := hy.below hB0
  clear hx hy
  have hcs := @cell_set
  have hlt1 := P3.1
  go_enter Try.func66, Try.ntmps66
  go_wp2
  generalize (((w.alloc (.cells #[.bool sx, .slice A na ca] 69)).alloc (.cells #[.bool sy, .slice B nb cb] 69)).alloc (.cells #[.bool false, .slice none 0 0] 69)) = W0 at *
  obtain ⟨p10, p11, p12, p13, p14⟩ := _root_.id P1
  obtain ⟨p20, p21, p22, p23, p24⟩ := _root_.id P2
  go_region_with (first
    | (go_at_call 82; refine (bneg' (w := W0.drew) (by omega) Y0.drew).mono ?_; rintro e w1 ⟨⟨s1, n1, c1, rfl, hn1, hbig1⟩, hb1⟩; obtain ⟨r0, r1, r2, r3, r4⟩ := P1.drew.below hb1; have Q3 := P3.drew.below hb1; have X1 := X0.drew.below hb1; have hB1 := since_step hB0.drew hb1; clear hb1)
    | (go_at_call 32; refine (badd' (w := w1) la (by omega) X1 hbig1).mono ?_; rintro e w2 ⟨⟨s2, A2, n2, c2, rfl, hfr, hbig⟩, hb2⟩; obtain ⟨q0, q1, q2, q3, q4⟩ := Q3.below hb2; have hB2 := since_step hB1 hb2; have hz1 := Q3.1; clear hb2))
  all_goals
    go_wp2
    refine bodyPost_ret (v := .agg #[.bool s2, .slice A2 n2 c2]) ?_ rfl ?_
    · simp [results, Try.results66, go_sem, cell_set, q1, q2]
    · refine ⟨⟨s2, A2, n2, c2, rfl, hfr.le hB1.size (Nat.le_refl _), ?_⟩, ?_⟩
      · exact (hbig.far (fun b o hA h0 => by have := hfr b o hA h0; simp; omega) _).far (fun b o hA h0 => by have := hfr b o hA h0; simp; omega) _
      · repeat' (first | with_reducible exact hB2 | with_reducible refine Below.setCell ?_ ?_ _)
        all_goals first | (simp; done) | (simp; omega)
theorem norm_plus {a b out : List Nat} (ha : Norm a) (hb : Norm b) (ho : Bin out) (hv : bval out = bval a + bval b) (hl : out.length = max a.length b.length ∨ (out.length = max a.length b.length + 1 ∧ 2 ^ max a.length b.length ≤ bval out)) : Norm out := by
  rcases hl with hl | ⟨hl, hge⟩
  · rcases Nat.eq_zero_or_pos out.length with h0 | h0
    · rw [List.eq_nil_of_length_eq_zero h0]; exact Norm.nil
    · obtain ⟨k, hk⟩ : ∃ k, out.length = k + 1 := ⟨out.length - 1, by omega⟩
      refine norm_of_ge ho hk ?_
      rcases Nat.le_total a.length b.length with h | h
      · have := hb.ge (k := k) (by omega)
        omega
      · have := ha.ge (k := k) (by omega)
        omega
  · exact norm_of_ge ho hl hge
theorem big_field (s : Bool) (A : Option Addr) (n c : Nat) (W : World) : (Instr.field 69 (.agg #[.bool s, .slice A n c]) 1).run Try.prog W = .ok (.slice A n c) W := by kernel_rfl
set_option maxRecDepth 100000 in
set_option maxHeartbeats 4000000 in
theorem bof_any (x : Int) (w : World) (hx : -9223372036854775808 ≤ x ∧ x ≤ 9223372036854775807) :
    Calls Try.prog 27 #[.int .i64 x] w fun e w' => bigR w w' e x ∧ Below w.heap.size w w' := by
  have P0 := BB.new w false none 0 0 69
  have hB0 : Below w.heap.size w (w.alloc (.cells #[.bool false, .slice none 0 0] 69)) := since_alloc (Below.refl _ w) _
  have hcs := @cell_set
  by_cases h0 : 0 ≤ x
  · obtain ⟨u, rfl⟩ := Int.eq_ofNat_of_zero_le h0
    have ew : IntKind.u64.wrap (u : Int) = (u : Int) := by rw [IntKind.wrap_u64]; omega
    go_enter Try.func27, Try.ntmps27
    go_wp2_with fail
    refine (nat_any u _ (by omega)).mono ?_
    rintro e w1 ⟨⟨A1, n1, c1, rfl, hfr, hbig⟩, hb1⟩
    obtain ⟨q0, q1, q2, q3, q4⟩ := P0.below hb1
    have hB1 := since_step hB0 hb1
    clear hb1 P0
    go_wp2
    refine bodyPost_ret (v := .agg #[.bool false, .slice A1 n1 c1]) ?_ rfl ?_
    · simp [results, Try.results27, go_sem, cell_set, q1, q2]
    · refine ⟨⟨false, A1, n1, c1, rfl, hfr.le hB0.size (Nat.le_refl _), ?_⟩, ?_⟩
      · exact (hbig.far (fun b o hA h0 => by have := hfr b o hA h0; simp at this ⊢; omega) _).far (fun b o hA h0 => by have := hfr b o hA h0; simp at this ⊢; omega) _
      · repeat' (first | with_reducible exact hB1 | with_reducible refine Below.setCell ?_ ?_ _)
        all_goals first | (simp; done) | (simp; omega)
  · obtain ⟨u, rfl⟩ : ∃ u : Nat, x = -((u : Int) + 1) := ⟨(-x - 1).toNat, by omega⟩
    have hu : u < 9223372036854775808 := by omega
    have ew : IntKind.u64.wrap (u : Int) = (u : Int) := by rw [IntKind.wrap_u64]; omega
    clear hx
    have hfd := big_field
    go_enter Try.func27, Try.ntmps27
    go_wp2_with fail
    rw [show -(-((u : Int) + 1) + 1) = (u : Int) from by omega]
    refine (nat_any u _ (by omega)).mono ?_
    rintro e w1 ⟨⟨A1, n1, c1, rfl, hfr, hbig⟩, hb1⟩
    have Q0 := P0.below hb1
    have hB1 := since_step hB0 hb1
    have hn1 : n1 ≤ 64 := (hbig.len (k := 64)).2 (by simp; omega)
    obtain ⟨bits, h1, h2, h3, h4, h5, h6, h7⟩ := hbig.ex
    have hv1 : (u : Int) = bval bits := by simpa using h7
    have HV1 := Lib.hid hv1
    subst h1
    clear hb1 P0 hv1 h7 h6 hbig
    go_wp2_with fail
    have norm1 : Norm [1] := ⟨fun b hb => by simp at hb; omega, fun k hk hl => by simp at hk; subst hk; rfl⟩
    refine (bplus_any A1 (some ⟨w1.heap.size, 0, none⟩) c1 1 bits [1] _ (by omega) (by simp) h5.1 norm1.1 (h4.alloc _) (Sl.new_ _ _ _)).mono ?_
    rintro e w2 ⟨⟨A2, c2, out, rfl, ⟨hcap, hs2, hbin, hfr2⟩, hv, hlen⟩, hb2⟩
    have hN := norm_plus h5 norm1 hbin hv hlen
    have hv2 : bval out = bval bits + 1 := by rw [hv]; rfl
    have HV2 := Lib.hid hv2
    obtain ⟨q0, q1, q2, q3, q4⟩ := (Q0.alloc (.cells #[.int .u8 1] 5)).below hb2
    have hB2 := since_step (since_alloc hB1 _) hb2
    have hz1 := Q0.1
    have HL := Lib.hid hlen
    clear hb2 hv hv2 hlen Q0
    go_wp2
    refine bodyPost_ret (v := .agg #[.bool true, .slice A2 out.length c2]) ?_ rfl ?_
    · simp [results, Try.results27, go_sem, cell_set, q1, q2]
    · have hbig : BigAt w2 true A2 out.length c2 (-((u : Int) + 1)) := ⟨out, rfl, hcap.1, hcap.2, hs2, hN, fun _ e => by subst e; have := HV2.out; simp [bval] at this, by have := HV1.out; have := HV2.out; simp; omega⟩
      have hfr3 : Fr w.heap.size A2 out.length := hfr2.le (by have := hB1.size; simp; omega) (Nat.le_refl _)
      have hne : ∀ b o, A2 = some ⟨b, o, none⟩ → 0 < out.length → b ≠ w.heap.size := fun b o hA h0 => by have := hfr2 b o hA h0; simp at this; omega
      refine ⟨⟨true, A2, out.length, c2, rfl, hfr3, ?_⟩, ?_⟩
      · exact (hbig.far (fun b o hA h0 => by have := hne b o hA h0; simpa using this) _).far (fun b o hA h0 => by have := hne b o hA h0; simpa using this) _
      · repeat' (first | with_reducible exact hB2 | with_reducible refine Below.setCell ?_ ?_ _)
        all_goals first | (simp; done) | (simp; omega)
def inN (x : Int) (m : Nat) : Prop := (if x < 0 then (x + 1).natAbs else x.natAbs) < 2 ^ m
instance (x : Int) (m : Nat) : Decidable (inN x m) := by unfold inN; infer_instance
theorem inN_63 (x : Int) : inN x 63 ↔ (-9223372036854775808 ≤ x ∧ x ≤ 9223372036854775807) := by
  unfold inN
  rw [show (2 : Nat) ^ 63 = 9223372036854775808 from by decide]
  split <;> omega
set_option maxRecDepth 100000 in
set_option maxHeartbeats 8000000 in
theorem bwithin_any (x : Int) (m : Nat) (K : Int) (hK : K = m + 1) (hm : m ≤ 100000) (s : Bool) (A : Option Addr) (n c : Nat) (w : World) (la : n ≤ 100000) (hx : BigAt w s A n c x) :
    Calls Try.prog 48 #[.agg #[.bool s, .slice A n c], .int .i64 K] w fun e w' => e = .returned (.bool (decide (inN x m))) ∧ Below w.heap.size w w' := by
  have P0 := BB.new w s A n c 69
  have hB0 : Below w.heap.size w (w.alloc (.cells #[.bool s, .slice A n c] 69)) := since_alloc (Below.refl _ w) _
  have X0 := hx.below hB0
  have hs := hx.neg_iff
  have hln := hx.len (k := m)
  have hcs := @cell_set
  clear hx
  cases s with
  | false =>
    have hv : inN x m ↔ n ≤ m := by
      have : ¬ x < 0 := by simpa using hs.symm
      unfold inN
      rw [if_neg this, hln]
    have HV := Lib.hid hv
    have HK := Lib.hid hK
    clear hv hK hln hs
    go_enter Try.func48, Try.ntmps48
    go_wp2
    go_ret
    exact ⟨retB (by have := HK.out; by_cases h : inN x m; (rw [decide_eq_true h, decide_eq_true]; have := HV.out.1 h; omega); (rw [decide_eq_false h, decide_eq_false]; have : ¬ n ≤ m := fun g => h (HV.out.2 g); omega)), hB0⟩
  | true =>
    have hx0 : x < 0 := by simpa using hs.symm
    have HX := Lib.hid hx0
    have HK := Lib.hid hK
    clear hK hln hs hx0
    go_enter Try.func48, Try.ntmps48
    go_wp2
    generalize w.alloc (.cells #[.bool true, .slice A n c] 69) = W0 at *
    obtain ⟨p0, p1, p2, p3, p4⟩ := _root_.id P0
    go_region_with (first
      | (go_at_call 45; refine (nat_any 1 W0.drew (by decide)).mono ?_; rintro e w1 ⟨⟨A1, n1, c1, rfl, hfr1, hbig1⟩, hb1⟩; have Q0 := P0.drew.below hb1; obtain ⟨r0, r1, r2, r3, r4⟩ := _root_.id Q0; have X1 := X0.drew.below hb1; have hB1 := since_step hB0.drew hb1; have hn1 : n1 ≤ 64 := (hbig1.len (k := 64)).2 (by decide); clear hb1)
      | (go_at_call 32; refine (badd' (w := w1) la (by omega) X1 hbig1).mono ?_; rintro e w2 ⟨⟨s2, A2, n2, c2, rfl, hfr, hbig⟩, hb2⟩; obtain ⟨q0, q1, q2, q3, q4⟩ := Q0.below hb2; have hB2 := since_step hB1 hb2; have hln := hbig.len (k := m); have HLN := Lib.hid hln; clear hb2 hln))
    all_goals
      go_wp2
      go_ret
      refine ⟨retB ?_, ?_⟩
      · have h1 := HK.out
        have h2 := HLN.out
        have h3 := HX.out
        have h4 : inN x m ↔ n2 ≤ m := by
          unfold inN
          rw [if_pos h3, h2]
          simp
        by_cases h : inN x m
        · rw [decide_eq_true h, decide_eq_true]; have := h4.1 h; omega
        · rw [decide_eq_false h, decide_eq_false]; have : ¬ n2 ≤ m := fun g => h (h4.2 g); omega
      · repeat' (first | with_reducible exact hB2 | with_reducible refine Below.setCell ?_ ?_ _)
        all_goals first | (simp; done) | (simp; omega)
theorem bfits_any (x : Int) (s : Bool) (A : Option Addr) (n c : Nat) (w : World) (la : n ≤ 100000) (hx : BigAt w s A n c x) :
    Calls Try.prog 30 #[.agg #[.bool s, .slice A n c]] w fun e w' => e = .returned (.bool (decide (inN x 63))) ∧ Below w.heap.size w w' := by
  have hB0 : Below w.heap.size w (w.alloc (.cells #[.bool s, .slice A n c] 69)) := since_alloc (Below.refl _ w) _
  have X0 := hx.below hB0
  clear hx
  go_enter Try.func30, Try.ntmps30
  go_wp2_with fail
  refine (bwithin_any x 63 64 (by decide) (by decide) s A n c _ la X0).mono ?_
  rintro e w1 ⟨rfl, hb1⟩
  generalize hd : decide (inN x 63) = r at *
  have HD := Lib.hid hd
  clear hd
  have hB1 := since_step hB0 hb1
  clear hb1
  go_wp2
  go_ret
  exact ⟨retB HD.out.symm, hB1⟩
end Go.Proofs.Ytlbccpiadmcpjaa
end
