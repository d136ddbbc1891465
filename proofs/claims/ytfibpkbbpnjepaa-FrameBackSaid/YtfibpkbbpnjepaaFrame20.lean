/-
  Layer 7, twentieth part: rows of rows of bytes that came back; FrameCuts (laid by gen_frame20.py).
-/
import Derived.Test.YtfibpkbbpnjepaaFrame19
namespace Go.Proofs.Ytfibpkbbpnjepaa
open Go.ChangeShapes Go.WideShapes Go.ChangeAt Go.RowKit
set_option linter.unusedVariables false
set_option linter.unusedSimpArgs false

/-- rows of bytes that lie in a row -/
def Rows8 (w : World) (A : Option Addr) (R : List (List Nat)) : Prop := ∃ S : List (RowS Nat), S.map RowS.l = R ∧ Sl w A (rc RowS.cells S) ∧ ∀ s ∈ S, Sl w s.A (by8 s.l) ∧ s.l.length ≤ s.c ∧ s.c ≤ maxLen
theorem Rows8.below {w w' : World} {A : Option Addr} {R : List (List Nat)} (h : Rows8 w A R) (hb : Below w.heap.size w w') : Rows8 w' A R := by
  obtain ⟨S, h1, h2, h3⟩ := h
  exact ⟨S, h1, h2.below hb, fun s hs => ⟨(h3 s hs).1.below hb, (h3 s hs).2⟩⟩
theorem Rows8.at_ {w : World} {A : Option Addr} {R : List (List Nat)} (h : Rows8 w A R) {k : Nat} (hk : k < R.length) : ∃ b o A' d, A = some ⟨b, o, none⟩ ∧ b < w.heap.size ∧ w.cell? ⟨b, o + k, none⟩ = some (.slice A' R[k].length d) ∧ Sl w A' (by8 R[k]) ∧ R[k].length ≤ d ∧ d ≤ maxLen := by
  obtain ⟨S, h1, h2, h3⟩ := h
  have hk2 : k < S.length := by have := congrArg List.length h1; rw [List.length_map] at this; omega
  obtain ⟨b, o, rfl, hb, hc⟩ := h2.rowS hk2
  have e : R[k] = S[k].l := by subst h1; simp
  rw [e]
  obtain ⟨q1, q2, q3⟩ := h3 _ (List.getElem_mem hk2)
  exact ⟨b, o, _, _, rfl, hb, hc, q1, q2, q3⟩
theorem CRes.rows {B : Nat} {w' : World} {e : Ending} {R : List (List Nat)} {z : Int} (h : CRes B w' e (R, z)) : ∃ A' c', e = .returned (.tuple #[.slice A' R.length c', .int .i64 z]) ∧ Rows8 w' A' R := by
  obtain ⟨A', c', S, rfl, own, hm, hr⟩ := h
  simp only at hm
  have hl : S.length = R.length := by have := congrArg List.length hm; rw [List.length_map] at this; exact this
  refine ⟨A', c', by rw [hl], S, hm, Sl.of_own own, fun s hs => ⟨Sl.of_own (hr s hs), own_le (hr s hs), own_max (hr s hs)⟩⟩

theorem cutF_len (life era seq : Int) (b : List Nat) : (cutF life era seq b).1.length ≤ 255 := by
  unfold cutF
  split
  · simp
  · split
    · simp only [cellsF, List.length_map, List.length_range]; omega
    · simp
set_option maxHeartbeats 16000000 in
set_option maxRecDepth 100000 in
theorem walk_FrameCuts (a0 : Int) (a1 : Int) (a2 : Int) (a3 : Option Addr) (n3 c3 : Nat) (w : World) (w0 : (Lit.int .i64 a0).wf = true) (w1 : (Lit.int .i64 a1).wf = true) (w2 : (Lit.int .i64 a2).wf = true) (w3 : Rd w (.sl (.int .u8)) [.slice a3 n3 c3]) :
    Calls Try.prog 4 #[.int .i64 a0, .int .i64 a1, .int .i64 a2, .slice a3 n3 c3] w fun e w' => e = .returned (.bool true) ∧ Below w.heap.size w w' := by
  obtain ⟨l, rfl, hlc, hlm, hsl, hol⟩ := rd_octs w3
  clear w0 w1 w2 w3
  have HCT := Lib.hid (fun V => cut_any a3 l.length c3 400 V (by unfold maxLen at hlm; omega) (by omega) hlc (by unfold maxLen at hlm; omega))
  obtain ⟨b, hb⟩ : ∃ b, l.take 400 = b := ⟨_, rfl⟩
  have hbl : min l.length 400 = b.length := by rw [← hb]; simp; omega
  have hb4 : b.length ≤ 400 := by rw [← hb]; simp; omega
  have hsb : Sl w a3 (by8 b) := by rw [← hb, by8_take]; exact hsl.take _
  have hob : Oct b := fun x hx => hol x (by rw [← hb] at hx; exact List.mem_of_mem_take hx)
  rw [hbl] at HCT
  have HFC := Lib.hid (fun V h => fcut7_any a0 a1 a2 a3 c3 b V (by omega) hlm (by omega) h hob)
  have HRC := Lib.hid (fun V h => rcut7_any a0 a1 a2 a3 c3 b V (by omega) hlm (by omega) h hob)
  obtain ⟨R, rn, hR⟩ : ∃ L n, cutF a0 a1 a2 b = (L, n) := ⟨_, _, rfl⟩
  rw [hR] at HFC HRC
  have hRl := cutF_len a0 a1 a2 b
  rw [hR] at hRl
  simp only at hRl
  have HLV := Lib.hid (fun V => lives7_any V)
  have hrn : (rn == rn) = true := by simp
  have hrn2 : (rn != rn) = false := by simp
  have hRn : ((R.length : Int) != (R.length : Int)) = false := by simp
  obtain ⟨bn, hbn⟩ : ∃ n, b.length = n := ⟨_, rfl⟩
  obtain ⟨ln, hln⟩ : ∃ n, l.length = n := ⟨_, rfl⟩
  rw [hbn] at HCT HFC HRC
  rw [hln] at HCT ⊢
  clear hlc hlm hsl hol hb hbl hb4 hob hR hbn hln
  go_enter Try.func4, Try.ntmps4
  go_wp2_with fail
  refine (HCT.out _).mono ?_
  rintro e y1 ⟨rfl, rfl⟩
  go_wp2_with fail
  refine (HFC.out _ hsb).mono ?_
  rintro e z1 ⟨hC, hB⟩
  obtain ⟨A1, d1, rfl, r1⟩ := hC.rows
  have hsb := hsb.below hB
  clear hC
  go_wp2_with fail
  refine (HRC.out _ hsb).mono ?_
  rintro e z2 ⟨hC, hb2⟩
  obtain ⟨A2, d2, rfl, r2⟩ := hC.rows
  have hB := since_step hB hb2
  have r1 := r1.below hb2
  clear hC hb2 hsb HFC HRC HCT
  go_wp2_with fail
  go_loopw [13] (fun i wr => ∃ k : Nat, k ≤ R.length ∧ i = .int .i64 k ∧ Below w.heap.size w wr ∧ Below z2.heap.size z2 wr) (fun i _ => R.length - (intOf i).toNat)
  case atStart => exact ⟨0, by omega, rfl, hB, Below.refl _ _⟩
  case round =>
    obtain ⟨k, hk, rfl, hB, hBz⟩ := hrel
    by_cases hlt : k < R.length
    · have hlk : (k : Int) < (R.length : Int) := by omega
      have hgk : (0 : Int) ≤ (k : Int) := by omega
      have hks : IntKind.i64.wrap ((k : Int) + 1) = (k : Int) + 1 := IntWalk.i64_in _ (by omega)
      obtain ⟨b1, o1, P1, e1, rfl, hb1, q1, s1, _, m1⟩ := (r1.below hBz).at_ hlt
      obtain ⟨b2, o2, P2, e2, rfl, hb2, q2, s2, _, m2⟩ := (r2.below hBz).at_ hlt
      obtain ⟨X, hX⟩ : ∃ X, R[k] = X := ⟨_, rfl⟩
      have hXl : X.length ≤ maxLen := by rw [← hX]; omega
      rw [hX] at q1 q2 s1 s2
      have HQ : Hid (∀ V, Below wr.heap.size wr V → V.cell? ⟨b1, o1 + k, none⟩ = some (.slice P1 X.length e1) ∧ V.cell? ⟨b2, o2 + k, none⟩ = some (.slice P2 X.length e2) ∧ Sl V P1 (by8 X) ∧ Sl V P2 (by8 X)) := Lib.hid fun V hV => ⟨(hV.cell (p := ⟨b1, o1 + k, none⟩) hb1).trans q1, (hV.cell (p := ⟨b2, o2 + k, none⟩) hb2).trans q2, s1.below hV, s2.below hV⟩
      have HSM := Lib.hid (fun V h1 h2 => same_n P1 P2 e1 e2 X.length X.length X X V rfl rfl hXl hXl h1 h2)
      simp only [decide_true] at HSM
      obtain ⟨xn, hxn⟩ : ∃ n, X.length = n := ⟨_, rfl⟩
      rw [hxn] at HQ HSM
      have hszr := hB.size
      have hszz := hBz.size
      clear hX hXl hxn q1 q2 s1 s2 hb1 hb2 m1 m2
      go_wp2_with fail
      refine wp_region_held_drew (S := (fun V => Below wr.heap.size wr V)) (by kernel_rfl) (by exact (Below.refl _ _).drew) (fun hHeld => ?_)
      refine wpAnyH_take (i := 0) (oi := { dst := some 48, op := _, type := _, pos := _, after := _, guard := _ }) (v := ?_) rfl (by kernel_rfl) (by kernel_rfl) (by kernel_rfl) (fun _ _ _ h => h) (Or.inl ⟨by rfl, ?_⟩) hHeld ?_
      rotate_left
      · (intro w hSw; obtain ⟨q1, q2, _, _⟩ := HQ.out _ hSw; go_simp <;> with_reducible rfl)
      try simp only [Act.put, List.setIfInBounds_toArray, List.set_cons_zero, List.set_cons_succ]
      refine wpAnyH_take (i := 1) (oi := { dst := some 49, op := _, type := _, pos := _, after := _, guard := _ }) (v := ?_) rfl (by kernel_rfl) (by kernel_rfl) (by kernel_rfl) (fun _ _ _ h => h) (Or.inl ⟨by rfl, ?_⟩) hHeld ?_
      rotate_left
      · (intro w hSw; obtain ⟨q1, q2, _, _⟩ := HQ.out _ hSw; go_simp <;> with_reducible rfl)
      try simp only [Act.put, List.setIfInBounds_toArray, List.set_cons_zero, List.set_cons_succ]
      refine wpAnyH_take (i := 2) (oi := { dst := some 50, op := _, type := _, pos := _, after := _, guard := _ }) (v := ?_) rfl (by kernel_rfl) (by kernel_rfl) (by kernel_rfl) (fun _ _ _ h => h) (Or.inl ⟨by rfl, ?_⟩) hHeld ?_
      rotate_left
      · (intro w hSw; obtain ⟨q1, q2, _, _⟩ := HQ.out _ hSw; go_simp <;> with_reducible rfl)
      try simp only [Act.put, List.setIfInBounds_toArray, List.set_cons_zero, List.set_cons_succ]
      refine wpAnyH_take (i := 3) (oi := { dst := some 51, op := _, type := _, pos := _, after := _, guard := _ }) (v := ?_) rfl (by kernel_rfl) (by kernel_rfl) (by kernel_rfl) (fun _ _ _ h => h) (Or.inl ⟨by rfl, ?_⟩) hHeld ?_
      rotate_left
      · (intro w hSw; obtain ⟨q1, q2, _, _⟩ := HQ.out _ hSw; go_simp <;> with_reducible rfl)
      try simp only [Act.put, List.setIfInBounds_toArray, List.set_cons_zero, List.set_cons_succ]
      refine wpAnyH_take (i := 4) (oi := { dst := some 52, op := _, type := _, pos := _, after := _, guard := _ }) (v := ?_) rfl (by kernel_rfl) (by kernel_rfl) (by kernel_rfl) (fun _ _ _ h => h) (Or.inl ⟨by rfl, ?_⟩) hHeld ?_
      rotate_left
      · (intro w hSw; obtain ⟨q1, q2, _, _⟩ := HQ.out _ hSw; go_simp <;> with_reducible rfl)
      try simp only [Act.put, List.setIfInBounds_toArray, List.set_cons_zero, List.set_cons_succ]
      refine wpAnyH_take (i := 5) (oi := { dst := some 53, op := _, type := _, pos := _, after := _, guard := _ }) (v := ?_) rfl (by kernel_rfl) (by kernel_rfl) (by kernel_rfl) (fun _ _ _ h => h) (Or.inl ⟨by rfl, ?_⟩) hHeld ?_
      rotate_left
      · (intro w hSw; obtain ⟨q1, q2, _, _⟩ := HQ.out _ hSw; go_simp <;> with_reducible rfl)
      try simp only [Act.put, List.setIfInBounds_toArray, List.set_cons_zero, List.set_cons_succ]
      refine wpAnyH_take (i := 6) (oi := { dst := some 54, op := _, type := _, pos := _, after := _, guard := _ }) (v := ?_) rfl (by kernel_rfl) (by kernel_rfl) (by kernel_rfl) (fun _ _ _ h => h) (Or.inl ⟨by rfl, ?_⟩) hHeld ?_
      rotate_left
      · (intro w hSw; obtain ⟨q1, q2, _, _⟩ := HQ.out _ hSw; go_simp <;> with_reducible rfl)
      try simp only [Act.put, List.setIfInBounds_toArray, List.set_cons_zero, List.set_cons_succ]
      refine wpAnyH_take (i := 7) (oi := { dst := some 55, op := _, type := _, pos := _, after := _, guard := _ }) (v := ?_) rfl (by kernel_rfl) (by kernel_rfl) (by kernel_rfl) (fun _ _ _ h => h) (Or.inl ⟨by rfl, ?_⟩) hHeld ?_
      rotate_left
      · (intro w hSw; obtain ⟨q1, q2, _, _⟩ := HQ.out _ hSw; go_simp <;> with_reducible rfl)
      try simp only [Act.put, List.setIfInBounds_toArray, List.set_cons_zero, List.set_cons_succ]
      refine wpAnyH_ready (rs := [8]) (by kernel_rfl) (by simp) ?_
      refine AllReadyH.cons (o := { dst := some 56, op := _, type := _, pos := _, after := _, guard := _ }) rfl (fun K hK => ?_) AllReadyH.nil
      go_simp
      refine (HSM.out _ (HQ.out _ hHeld).2.2.1 (HQ.out _ hHeld).2.2.2).mono ?_
      rintro e u2 ⟨rfl, n2, rfl⟩
      have hKeep : Below wr.heap.size wr (wr.drewN (1 + n2)) := below_drewN (Below.refl _ _) _
      go_wp2_with fail
      refine hK.out _ _ (by (try dsimp only); exact hKeep) (fun hHeld => ?_)
      clear hK K hKeep
      try simp only [Act.put, List.setIfInBounds_toArray, List.set_cons_zero, List.set_cons_succ]
      refine wpAnyH_take (i := 9) (oi := { dst := some 57, op := _, type := _, pos := _, after := _, guard := _ }) (v := ?_) rfl (by kernel_rfl) (by kernel_rfl) (by kernel_rfl) (fun _ _ _ h => h) (Or.inl ⟨by rfl, ?_⟩) hHeld ?_
      rotate_left
      · (intro w hSw; obtain ⟨q1, q2, _, _⟩ := HQ.out _ hSw; go_simp <;> with_reducible rfl)
      try simp only [Act.put, List.setIfInBounds_toArray, List.set_cons_zero, List.set_cons_succ]
      refine wpAnyH_done (by kernel_rfl) ?_ _
      have hB2 := hB.trans (hHeld.mono hszr)
      have hBz2 := hBz.trans (hHeld.mono hszz)
      go_wp2_with fail
      go_roundw
      case rel => exact ⟨k + 1, by omega, by go_num, hB2, hBz2⟩
      case measure => simp [intOf]; omega
    · obtain rfl : k = R.length := by omega
      go_wp2_with fail
      refine (HLV.out _).mono ?_
      rintro e v1 ⟨rfl, hb1⟩
      have hB := since_step hB hb1
      go_wp2_with fail
      go_ret
      exact ⟨rfl, hB⟩
end Go.Proofs.Ytfibpkbbpnjepaa
