/-
  Layer 7, nineteenth part: what came in; FrameEncodes (laid by gen_frame19.py).
-/
import Derived.Test.YtfibpkbbpnjepaaFrame18
namespace Go.Proofs.Ytfibpkbbpnjepaa
open Go.ChangeShapes Go.WideShapes Go.ChangeAt Go.RowKit
set_option linter.unusedVariables false
set_option linter.unusedSimpArgs false

theorem rc_oct8 (l : List Nat) : rc (fun n : Nat => [Value.int .u8 (n : Int)]) l = by8 l := by
  unfold rc by8
  induction l with
  | nil => rfl
  | cons a l ih => simp only [List.map_cons, List.flatten_cons, ih]; rfl
theorem rd_oct {w : World} {r : List Value} (h : Rd w (.int .u8) r) : ∃ n : Nat, r = [.int .u8 (n : Int)] ∧ n < 256 := by
  obtain ⟨n, rfl, hn⟩ := h
  have := bd_u8 hn
  exact ⟨n.toNat, by rw [show ((n.toNat : Nat) : Int) = n by omega], by omega⟩
theorem rd_octs {w : World} {A : Option Addr} {n c : Nat} (h : Rd w (.sl (.int .u8)) [.slice A n c]) : ∃ l : List Nat, l.length = n ∧ n ≤ c ∧ c ≤ maxLen ∧ Sl w A (by8 l) ∧ Oct l := by
  obtain ⟨l8, h1, h2, h3, h4, h5⟩ := rd_rowsP (f := fun n : Nat => [Value.int .u8 (n : Int)]) (fun r => rd_oct) h
  rw [rc_oct8] at h4
  exact ⟨l8, h1, h2, h3, h4, h5⟩
theorem rd_fr {w : World} {a : Array Value} (h : Rd w (.cat (.int .i64) (.cat (.int .i64) (.cat (.int .i64) (.cat (.int .i64) (.cat (.int .i64) (.cat (.sl (.int .u8)) .nil)))))) a.toList) : ∃ (f : Fr) (A : Option Addr) (c : Nat), .agg a = f.val A c ∧ f.data.length ≤ c ∧ c ≤ maxLen ∧ Sl w A (by8 f.data) ∧ Oct f.data := by
  obtain ⟨_, q0, e0, ⟨z0, rfl, _⟩, ⟨_, q1, rfl, ⟨z1, rfl, _⟩, ⟨_, q2, rfl, ⟨z2, rfl, _⟩, ⟨_, q3, rfl, ⟨z3, rfl, _⟩, ⟨_, q4, rfl, ⟨z4, rfl, _⟩, ⟨r, q5, rfl, hr, rfl⟩⟩⟩⟩⟩⟩ := h
  obtain ⟨A', n', c', rfl⟩ : ∃ A' n' c', r = [.slice A' n' c'] := by
    obtain ⟨A', n', c', rows, e, _⟩ := hr
    exact ⟨A', n', c', e⟩
  obtain ⟨l, rfl, h2, h3, h4, h5⟩ := rd_octs hr
  refine ⟨⟨z0, z1, z2, z3, z4, l⟩, A', c', ?_, h2, h3, h4, h5⟩
  cases a
  simp at e0
  subst e0
  rfl

set_option maxHeartbeats 16000000 in
set_option maxRecDepth 100000 in
theorem walk_FrameEncodes (a0 : Array Value) (a1 : Option Addr) (n1 c1 : Nat) (w : World) (w0 : Rd w (.cat (.int .i64) (.cat (.int .i64) (.cat (.int .i64) (.cat (.int .i64) (.cat (.int .i64) (.cat (.sl (.int .u8)) .nil)))))) a0.toList) (w1 : Rd w (.sl (.int .u8)) [.slice a1 n1 c1]) :
    Calls Try.prog 3 #[.agg a0, .slice a1 n1 c1] w fun e w' => e = .returned (.bool true) ∧ Below w.heap.size w w' := by
  obtain ⟨f, A, c, hf, hfc, hcm, hsf, hof⟩ := rd_fr w0
  obtain ⟨l, rfl, hlc, hlm, hsl, hol⟩ := rd_octs w1
  rw [hf]
  clear hf w0 w1
  have HSH := Lib.hid (fun V => short7_any f A c V hfc hcm)
  have HCT := Lib.hid (fun V => cut_any a1 l.length c1 100 V (by unfold maxLen at hlm; omega) (by omega) hlc (by unfold maxLen at hlm; omega))
  obtain ⟨b, hb⟩ : ∃ b, l.take 100 = b := ⟨_, rfl⟩
  have hbl : min l.length 100 = b.length := by rw [← hb]; simp; omega
  have hb100 : b.length ≤ 100 := by rw [← hb]; simp; omega
  have hsb : Sl w a1 (by8 b) := by rw [← hb, by8_take]; exact hsl.take _
  have hob : Oct b := fun x hx => hol x (by rw [← hb] at hx; exact List.mem_of_mem_take hx)
  rw [hbl] at HCT
  have hsg : Sl w A (by8 f.cut.data) := by unfold Fr.cut; simp only; rw [by8_take]; exact hsf.take _
  have hog : Oct f.cut.data := hof.take _
  have hgl : f.cut.data.length ≤ 90 := by simp [Fr.cut]; omega
  have HEN := Lib.hid (fun V h => fenc7_any f.cut A c V h hog)
  have HRE := Lib.hid (fun V h => renc7_any f.cut A c V (by omega) h hog)
  have HPL := Lib.hid (fun V => plain7_any f.cut A c V)
  have HDE := Lib.hid (fun V h => fdec7_any a1 c1 b V (by omega) hlm h hob)
  have HRD := Lib.hid (fun V h => rdec7_any a1 c1 b V (by omega) hlm h hob)
  obtain ⟨EL, en, hE⟩ : ∃ L n, encF f.cut = (L, n) := ⟨_, _, rfl⟩
  obtain ⟨X, xn, hX⟩ : ∃ L n, decF b = (L, n) := ⟨_, _, rfl⟩
  have hEl : EL.length ≤ 96 := by
    have h := congrArg (fun p => p.1.length) hE
    simp only at h
    rw [← h]
    unfold encF
    split
    · simp only [sealed_len]; rw [Fr.body_len (by have := (Fr.ok_iff _).1 (by assumption); omega)]; omega
    · simp
  have hXl : X.data.length ≤ 100 := by
    have h := congrArg (fun p => p.1.data.length) hX
    simp only at h
    rw [← h]
    unfold decF
    split
    · rename_i hh; have := (Fr.ok_iff _).1 hh.2.1; simp only; omega
    · simp [Fr0]
  rw [hE] at HEN HRE
  rw [hX] at HDE HRD
  have HSM := Lib.hid (fun A c A2 c2 V h1 h2 => same_n A A2 c c2 EL.length EL.length EL EL V rfl rfl (by unfold maxLen; omega) (by unfold maxLen; omega) h1 h2)
  simp only [decide_true] at HSM
  have HXP := Lib.hid (fun A c V => plain7_any X A c V)
  have HXS := Lib.hid (fun A B c d V h1 h2 => rsame7_eq X A B c d V (by omega) h1 h2)
  have HLV := Lib.hid (fun V => lives7_any V)
  have hen : (en == en) = true := by simp
  have hxn : (xn == xn) = true := by simp
  unfold ERes at HEN HRE
  unfold DRes at HDE HRD
  simp only at HEN HRE HDE HRD
  generalize hgg : f.cut = g at *
  obtain ⟨g0, g1, g2, g3, g4, gd⟩ := g
  obtain ⟨f0, f1, f2, f3, f4, fd⟩ := f
  obtain ⟨x0, x1, x2, x3, x4, xd⟩ := X
  unfold Fr.val at *
  simp only at *
  clear hgg hfc hcm hof hlc hlm hsl hol hb hbl hb100 hob hog hgl hE hX hEl hXl hsf
  have hsb := hsb.alloc (.cells #[.int .i64 f0, .int .i64 f1, .int .i64 f2, .int .i64 f3, .int .i64 f4, .slice A fd.length c] 24)
  have hsg := hsg.alloc (.cells #[.int .i64 f0, .int .i64 f1, .int .i64 f2, .int .i64 f3, .int .i64 f4, .slice A fd.length c] 24)
  have hB := since_alloc (Below.refl _ w) (.cells #[.int .i64 f0, .int .i64 f1, .int .i64 f2, .int .i64 f3, .int .i64 f4, .slice A fd.length c] 24)
  have hK := Bk.new w #[.int .i64 f0, .int .i64 f1, .int .i64 f2, .int .i64 f3, .int .i64 f4, .slice A fd.length c] 24
  obtain ⟨fn, hfn⟩ : ∃ n, fd.length = n := ⟨_, rfl⟩
  obtain ⟨gn, hgn⟩ : ∃ n, gd.length = n := ⟨_, rfl⟩
  obtain ⟨bn, hbn⟩ : ∃ n, b.length = n := ⟨_, rfl⟩
  obtain ⟨ln, hln⟩ : ∃ n, l.length = n := ⟨_, rfl⟩
  rw [hfn] at hsb hsg hB hK HSH ⊢
  rw [hgn] at HSH HEN HRE HPL
  rw [hbn] at HCT HDE HRD
  rw [hln] at HCT ⊢
  clear hfn hgn hbn hln
  go_enter Try.func3, Try.ntmps3
  go_upto_region 1 with fail
  generalize hWW : w.alloc (.cells #[.int .i64 f0, .int .i64 f1, .int .i64 f2, .int .i64 f3, .int .i64 f4, .slice A fn c] 24) = W at *
  clear hWW
  obtain ⟨hK_0, hK_1, hK_2, hK_3, hK_4, hK_5, hK_6⟩ := hK.six
  go_wp2_with fail
  refine (HSH.out _).mono ?_
  rintro e z1 ⟨rfl, hb⟩
  have hB := since_step hB hb
  have hK := hK.below hb
  have hsb := hsb.below hb
  have hsg := hsg.below hb
  clear hb
  clear hK_0 hK_1 hK_2 hK_3 hK_4 hK_5 hK_6
  clear hK
  go_wp2_with fail
  refine (HCT.out _).mono ?_
  rintro e y1 ⟨rfl, rfl⟩
  go_upto_region 2 with fail
  have hG := Bk.new z1 #[.int .i64 g0, .int .i64 g1, .int .i64 g2, .int .i64 g3, .int .i64 g4, .slice A gn c] 25
  have hA := (Below.refl z1.heap.size z1).alloc (Nat.le_refl _) (.cells #[.int .i64 g0, .int .i64 g1, .int .i64 g2, .int .i64 g3, .int .i64 g4, .slice A gn c] 25)
  have hsb := hsb.below hA
  have hsg := hsg.below hA
  have hB := since_step hB hA
  clear hA
  generalize hWW : z1.alloc (.cells #[.int .i64 g0, .int .i64 g1, .int .i64 g2, .int .i64 g3, .int .i64 g4, .slice A gn c] 25) = W2 at *
  clear hWW
  obtain ⟨hG_0, hG_1, hG_2, hG_3, hG_4, hG_5, hG_6⟩ := hG.six
  go_wp2_with fail
  refine (HEN.out _ hsg).mono ?_
  rintro e z2 ⟨⟨AE, cE, rfl, ownE⟩, hb⟩
  have hB := since_step hB hb
  have hsb := hsb.below hb
  have hsg := hsg.below hb
  have hG := hG.below hb
  clear hb
  clear hG_0 hG_1 hG_2 hG_3 hG_4 hG_5 hG_6
  have hE := Sl.of_own ownE
  clear ownE
  obtain ⟨hG_0, hG_1, hG_2, hG_3, hG_4, hG_5, hG_6⟩ := hG.six
  go_wp2_with fail
  refine (HPL.out _).mono ?_
  rintro e z3 ⟨rfl, hb⟩
  have hB := since_step hB hb
  have hsb := hsb.below hb
  have hsg := hsg.below hb
  have hG := hG.below hb
  have hE := hE.below hb
  clear hb
  clear hG_0 hG_1 hG_2 hG_3 hG_4 hG_5 hG_6
  obtain ⟨hG_0, hG_1, hG_2, hG_3, hG_4, hG_5, hG_6⟩ := hG.six
  go_wp2_with fail
  refine (HRE.out _ hsg).mono ?_
  rintro e z4 ⟨⟨AR, cR, rfl, ownR⟩, hb⟩
  have hB := since_step hB hb
  have hsb := hsb.below hb
  have hsg := hsg.below hb
  have hG := hG.below hb
  have hE := hE.below hb
  clear hb
  clear hG_0 hG_1 hG_2 hG_3 hG_4 hG_5 hG_6
  have hR := Sl.of_own ownR
  clear ownR
  clear hsg hG
  go_wp2_with fail
  refine (HDE.out _ hsb).mono ?_
  rintro e z5 ⟨⟨AX, cX, rfl, ownX⟩, hb⟩
  have hB := since_step hB hb
  have hsb := hsb.below hb
  have hE := hE.below hb
  have hR := hR.below hb
  clear hb
  have hX := Sl.of_own ownX
  clear ownX
  go_upto_region 5 with fail
  have hXB := Bk.new z5 #[.int .i64 x0, .int .i64 x1, .int .i64 x2, .int .i64 x3, .int .i64 x4, .slice AX xd.length cX] 25
  have hA := (Below.refl z5.heap.size z5).alloc (Nat.le_refl _) (.cells #[.int .i64 x0, .int .i64 x1, .int .i64 x2, .int .i64 x3, .int .i64 x4, .slice AX xd.length cX] 25)
  have hsb := hsb.below hA
  have hE := hE.below hA
  have hR := hR.below hA
  have hX := hX.below hA
  have hB := since_step hB hA
  clear hA
  generalize hWW : z5.alloc (.cells #[.int .i64 x0, .int .i64 x1, .int .i64 x2, .int .i64 x3, .int .i64 x4, .slice AX xd.length cX] 25) = W3 at *
  clear hWW
  obtain ⟨hXB_0, hXB_1, hXB_2, hXB_3, hXB_4, hXB_5, hXB_6⟩ := hXB.six
  go_wp2_with fail
  refine (HRD.out _ hsb).mono ?_
  rintro e z6 ⟨⟨AY, cY, rfl, ownY⟩, hb⟩
  have hB := since_step hB hb
  have hsb := hsb.below hb
  have hE := hE.below hb
  have hR := hR.below hb
  have hX := hX.below hb
  have hXB := hXB.below hb
  clear hb
  clear hXB_0 hXB_1 hXB_2 hXB_3 hXB_4 hXB_5 hXB_6
  have hY := Sl.of_own ownY
  clear ownY
  clear hsb
  obtain ⟨hXB_0, hXB_1, hXB_2, hXB_3, hXB_4, hXB_5, hXB_6⟩ := hXB.six
  go_upto_region 6 with fail
  have hYB := Bk.new z6 #[.int .i64 x0, .int .i64 x1, .int .i64 x2, .int .i64 x3, .int .i64 x4, .slice AY xd.length cY] 24
  have hA := (Below.refl z6.heap.size z6).alloc (Nat.le_refl _) (.cells #[.int .i64 x0, .int .i64 x1, .int .i64 x2, .int .i64 x3, .int .i64 x4, .slice AY xd.length cY] 24)
  have hE := hE.below hA
  have hR := hR.below hA
  have hX := hX.below hA
  have hXB := hXB.below hA
  have hY := hY.below hA
  have hB := since_step hB hA
  clear hA
  generalize hWW : z6.alloc (.cells #[.int .i64 x0, .int .i64 x1, .int .i64 x2, .int .i64 x3, .int .i64 x4, .slice AY xd.length cY] 24) = U at *
  clear hWW
  clear hXB_0 hXB_1 hXB_2 hXB_3 hXB_4 hXB_5 hXB_6
  have hszU := hB.size
  have HE : Hid (∀ V, Below U.heap.size U V → Sl V AE (by8 EL)) := Lib.hid fun V h => hE.below h
  have HR : Hid (∀ V, Below U.heap.size U V → Sl V AR (by8 EL)) := Lib.hid fun V h => hR.below h
  have HX : Hid (∀ V, Below U.heap.size U V → Sl V AX (by8 xd)) := Lib.hid fun V h => hX.below h
  have HY : Hid (∀ V, Below U.heap.size U V → Sl V AY (by8 xd)) := Lib.hid fun V h => hY.below h
  have HXB := Lib.hid (fun V (h : Below U.heap.size U V) => (hXB.below h).six)
  have HYB := Lib.hid (fun V (h : Below U.heap.size U V) => (hYB.below h).six)
  clear hE hR hX hY hXB hYB
  generalize xd.length = xl at *
  go_wp2_with fail
  refine wp_region_held_drew (S := (fun V => Below U.heap.size U V)) (by kernel_rfl) (by exact (Below.refl _ _).drew) (fun hHeld => ?_)
  refine wpAnyH_take (i := 0) (oi := { dst := some 39, op := _, type := _, pos := _, after := _, guard := _ }) (v := ?_) rfl (by kernel_rfl) (by kernel_rfl) (by kernel_rfl) (fun _ _ _ h => h) (Or.inl ⟨by rfl, ?_⟩) hHeld ?_
  rotate_left
  · (intro w hSw; obtain ⟨qx, qx0, qx1, qx2, qx3, qx4, qx5⟩ := HXB.out _ hSw; obtain ⟨qy, qy0, qy1, qy2, qy3, qy4, qy5⟩ := HYB.out _ hSw; go_simp <;> with_reducible rfl)
  try simp only [Act.put, List.setIfInBounds_toArray, List.set_cons_zero, List.set_cons_succ]
  refine wpAnyH_take (i := 1) (oi := { dst := some 40, op := _, type := _, pos := _, after := _, guard := _ }) (v := ?_) rfl (by kernel_rfl) (by kernel_rfl) (by kernel_rfl) (fun _ _ _ h => h) (Or.inl ⟨by rfl, ?_⟩) hHeld ?_
  rotate_left
  · (intro w hSw; obtain ⟨qx, qx0, qx1, qx2, qx3, qx4, qx5⟩ := HXB.out _ hSw; obtain ⟨qy, qy0, qy1, qy2, qy3, qy4, qy5⟩ := HYB.out _ hSw; go_simp <;> with_reducible rfl)
  try simp only [Act.put, List.setIfInBounds_toArray, List.set_cons_zero, List.set_cons_succ]
  refine wpAnyH_ready (rs := [2]) (by kernel_rfl) (by simp) ?_
  refine AllReadyH.cons (o := { dst := some 41, op := _, type := _, pos := _, after := _, guard := _ }) rfl (fun K hK => ?_) AllReadyH.nil
  go_simp
  refine (HSM.out _ _ _ _ _ (HE.out _ hHeld) (HR.out _ hHeld)).mono ?_
  rintro e u2 ⟨rfl, n2, rfl⟩
  have hKeep : Below U.heap.size U (U.drewN (1 + n2)) := below_drewN (Below.refl _ _) _
  go_wp2_with fail
  refine hK.out _ _ (by (try dsimp only); exact hKeep) (fun hHeld => ?_)
  clear hK K hKeep
  try simp only [Act.put, List.setIfInBounds_toArray, List.set_cons_zero, List.set_cons_succ]
  refine wpAnyH_take (i := 3) (oi := { dst := some 42, op := _, type := _, pos := _, after := _, guard := _ }) (v := ?_) rfl (by kernel_rfl) (by kernel_rfl) (by kernel_rfl) (fun _ _ _ h => h) (Or.inl ⟨by rfl, ?_⟩) hHeld ?_
  rotate_left
  · (intro w hSw; obtain ⟨qx, qx0, qx1, qx2, qx3, qx4, qx5⟩ := HXB.out _ hSw; obtain ⟨qy, qy0, qy1, qy2, qy3, qy4, qy5⟩ := HYB.out _ hSw; go_simp <;> with_reducible rfl)
  try simp only [Act.put, List.setIfInBounds_toArray, List.set_cons_zero, List.set_cons_succ]
  refine wpAnyH_take (i := 4) (oi := { dst := some 43, op := _, type := _, pos := _, after := _, guard := _ }) (v := ?_) rfl (by kernel_rfl) (by kernel_rfl) (by kernel_rfl) (fun _ _ _ h => h) (Or.inl ⟨by rfl, ?_⟩) hHeld ?_
  rotate_left
  · (intro w hSw; obtain ⟨qx, qx0, qx1, qx2, qx3, qx4, qx5⟩ := HXB.out _ hSw; obtain ⟨qy, qy0, qy1, qy2, qy3, qy4, qy5⟩ := HYB.out _ hSw; go_simp <;> with_reducible rfl)
  try simp only [Act.put, List.setIfInBounds_toArray, List.set_cons_zero, List.set_cons_succ]
  refine wpAnyH_take (i := 5) (oi := { dst := some 44, op := _, type := _, pos := _, after := _, guard := _ }) (v := ?_) rfl (by kernel_rfl) (by kernel_rfl) (by kernel_rfl) (fun _ _ _ h => h) (Or.inl ⟨by rfl, ?_⟩) hHeld ?_
  rotate_left
  · (intro w hSw; obtain ⟨qx, qx0, qx1, qx2, qx3, qx4, qx5⟩ := HXB.out _ hSw; obtain ⟨qy, qy0, qy1, qy2, qy3, qy4, qy5⟩ := HYB.out _ hSw; go_simp <;> with_reducible rfl)
  try simp only [Act.put, List.setIfInBounds_toArray, List.set_cons_zero, List.set_cons_succ]
  refine wpAnyH_take (i := 6) (oi := { dst := some 45, op := _, type := _, pos := _, after := _, guard := _ }) (v := ?_) rfl (by kernel_rfl) (by kernel_rfl) (by kernel_rfl) (fun _ _ _ h => h) (Or.inl ⟨by rfl, ?_⟩) hHeld ?_
  rotate_left
  · (intro w hSw; obtain ⟨qx, qx0, qx1, qx2, qx3, qx4, qx5⟩ := HXB.out _ hSw; obtain ⟨qy, qy0, qy1, qy2, qy3, qy4, qy5⟩ := HYB.out _ hSw; go_simp <;> with_reducible rfl)
  try simp only [Act.put, List.setIfInBounds_toArray, List.set_cons_zero, List.set_cons_succ]
  refine wpAnyH_take (i := 7) (oi := { dst := some 46, op := _, type := _, pos := _, after := _, guard := _ }) (v := ?_) rfl (by kernel_rfl) (by kernel_rfl) (by kernel_rfl) (fun _ _ _ h => h) (Or.inl ⟨by rfl, ?_⟩) hHeld ?_
  rotate_left
  · (intro w hSw; obtain ⟨qx, qx0, qx1, qx2, qx3, qx4, qx5⟩ := HXB.out _ hSw; obtain ⟨qy, qy0, qy1, qy2, qy3, qy4, qy5⟩ := HYB.out _ hSw; go_simp <;> with_reducible rfl)
  try simp only [Act.put, List.setIfInBounds_toArray, List.set_cons_zero, List.set_cons_succ]
  refine wpAnyH_take (i := 8) (oi := { dst := some 47, op := _, type := _, pos := _, after := _, guard := _ }) (v := ?_) rfl (by kernel_rfl) (by kernel_rfl) (by kernel_rfl) (fun _ _ _ h => h) (Or.inl ⟨by rfl, ?_⟩) hHeld ?_
  rotate_left
  · (intro w hSw; obtain ⟨qx, qx0, qx1, qx2, qx3, qx4, qx5⟩ := HXB.out _ hSw; obtain ⟨qy, qy0, qy1, qy2, qy3, qy4, qy5⟩ := HYB.out _ hSw; go_simp <;> with_reducible rfl)
  try simp only [Act.put, List.setIfInBounds_toArray, List.set_cons_zero, List.set_cons_succ]
  refine wpAnyH_take (i := 9) (oi := { dst := some 48, op := _, type := _, pos := _, after := _, guard := _ }) (v := ?_) rfl (by kernel_rfl) (by kernel_rfl) (by kernel_rfl) (fun _ _ _ h => h) (Or.inl ⟨by rfl, ?_⟩) hHeld ?_
  rotate_left
  · (intro w hSw; obtain ⟨qx, qx0, qx1, qx2, qx3, qx4, qx5⟩ := HXB.out _ hSw; obtain ⟨qy, qy0, qy1, qy2, qy3, qy4, qy5⟩ := HYB.out _ hSw; go_simp <;> with_reducible rfl)
  try simp only [Act.put, List.setIfInBounds_toArray, List.set_cons_zero, List.set_cons_succ]
  refine wpAnyH_take (i := 11) (oi := { dst := some 50, op := _, type := _, pos := _, after := _, guard := _ }) (v := ?_) rfl (by kernel_rfl) (by kernel_rfl) (by kernel_rfl) (fun _ _ _ h => h) (Or.inl ⟨by rfl, ?_⟩) hHeld ?_
  rotate_left
  · (intro w hSw; obtain ⟨qx, qx0, qx1, qx2, qx3, qx4, qx5⟩ := HXB.out _ hSw; obtain ⟨qy, qy0, qy1, qy2, qy3, qy4, qy5⟩ := HYB.out _ hSw; go_simp <;> with_reducible rfl)
  try simp only [Act.put, List.setIfInBounds_toArray, List.set_cons_zero, List.set_cons_succ]
  refine wpAnyH_ready (rs := [10]) (by kernel_rfl) (by simp) ?_
  refine AllReadyH.cons (o := { dst := some 49, op := _, type := _, pos := _, after := _, guard := _ }) rfl (fun K hK => ?_) AllReadyH.nil
  go_simp
  refine (HXP.out _ _ _).mono ?_
  rintro e u10 ⟨rfl, hk10⟩
  have hKeep := since_step hHeld hk10
  go_wp2_with fail
  refine hK.out _ _ (by (try dsimp only); exact hKeep) (fun hHeld => ?_)
  clear hK K hKeep
  try simp only [Act.put, List.setIfInBounds_toArray, List.set_cons_zero, List.set_cons_succ]
  refine wpAnyH_ready (rs := [12]) (by kernel_rfl) (by simp) ?_
  refine AllReadyH.cons (o := { dst := some 51, op := _, type := _, pos := _, after := _, guard := _ }) rfl (fun K hK => ?_) AllReadyH.nil
  go_simp
  refine (HXS.out _ _ _ _ _ (HX.out _ hHeld) (HY.out _ hHeld)).mono ?_
  rintro e u12 ⟨rfl, hk12⟩
  have hKeep := since_step hHeld hk12
  go_wp2_with fail
  refine hK.out _ _ (by (try dsimp only); exact hKeep) (fun hHeld => ?_)
  clear hK K hKeep
  try simp only [Act.put, List.setIfInBounds_toArray, List.set_cons_zero, List.set_cons_succ]
  refine wpAnyH_take (i := 13) (oi := { dst := some 52, op := _, type := _, pos := _, after := _, guard := _ }) (v := ?_) rfl (by kernel_rfl) (by kernel_rfl) (by kernel_rfl) (fun _ _ _ h => h) (Or.inl ⟨by rfl, ?_⟩) hHeld ?_
  rotate_left
  · (intro w hSw; obtain ⟨qx, qx0, qx1, qx2, qx3, qx4, qx5⟩ := HXB.out _ hSw; obtain ⟨qy, qy0, qy1, qy2, qy3, qy4, qy5⟩ := HYB.out _ hSw; go_simp <;> with_reducible rfl)
  try simp only [Act.put, List.setIfInBounds_toArray, List.set_cons_zero, List.set_cons_succ]
  refine wpAnyH_take (i := 14) (oi := { dst := some 53, op := _, type := _, pos := _, after := _, guard := _ }) (v := ?_) rfl (by kernel_rfl) (by kernel_rfl) (by kernel_rfl) (fun _ _ _ h => h) (Or.inl ⟨by rfl, ?_⟩) hHeld ?_
  rotate_left
  · (intro w hSw; obtain ⟨qx, qx0, qx1, qx2, qx3, qx4, qx5⟩ := HXB.out _ hSw; obtain ⟨qy, qy0, qy1, qy2, qy3, qy4, qy5⟩ := HYB.out _ hSw; go_simp <;> with_reducible rfl)
  try simp only [Act.put, List.setIfInBounds_toArray, List.set_cons_zero, List.set_cons_succ]
  refine wpAnyH_take (i := 15) (oi := { dst := some 54, op := _, type := _, pos := _, after := _, guard := _ }) (v := ?_) rfl (by kernel_rfl) (by kernel_rfl) (by kernel_rfl) (fun _ _ _ h => h) (Or.inl ⟨by rfl, ?_⟩) hHeld ?_
  rotate_left
  · (intro w hSw; obtain ⟨qx, qx0, qx1, qx2, qx3, qx4, qx5⟩ := HXB.out _ hSw; obtain ⟨qy, qy0, qy1, qy2, qy3, qy4, qy5⟩ := HYB.out _ hSw; go_simp <;> with_reducible rfl)
  try simp only [Act.put, List.setIfInBounds_toArray, List.set_cons_zero, List.set_cons_succ]
  refine wpAnyH_take (i := 16) (oi := { dst := some 55, op := _, type := _, pos := _, after := _, guard := _ }) (v := ?_) rfl (by kernel_rfl) (by kernel_rfl) (by kernel_rfl) (fun _ _ _ h => h) (Or.inl ⟨by rfl, ?_⟩) hHeld ?_
  rotate_left
  · (intro w hSw; obtain ⟨qx, qx0, qx1, qx2, qx3, qx4, qx5⟩ := HXB.out _ hSw; obtain ⟨qy, qy0, qy1, qy2, qy3, qy4, qy5⟩ := HYB.out _ hSw; go_simp <;> with_reducible rfl)
  try simp only [Act.put, List.setIfInBounds_toArray, List.set_cons_zero, List.set_cons_succ]
  refine wpAnyH_take (i := 17) (oi := { dst := some 56, op := _, type := _, pos := _, after := _, guard := _ }) (v := ?_) rfl (by kernel_rfl) (by kernel_rfl) (by kernel_rfl) (fun _ _ _ h => h) (Or.inl ⟨by rfl, ?_⟩) hHeld ?_
  rotate_left
  · (intro w hSw; obtain ⟨qx, qx0, qx1, qx2, qx3, qx4, qx5⟩ := HXB.out _ hSw; obtain ⟨qy, qy0, qy1, qy2, qy3, qy4, qy5⟩ := HYB.out _ hSw; go_simp <;> with_reducible rfl)
  try simp only [Act.put, List.setIfInBounds_toArray, List.set_cons_zero, List.set_cons_succ]
  refine wpAnyH_take (i := 18) (oi := { dst := some 57, op := _, type := _, pos := _, after := _, guard := _ }) (v := ?_) rfl (by kernel_rfl) (by kernel_rfl) (by kernel_rfl) (fun _ _ _ h => h) (Or.inl ⟨by rfl, ?_⟩) hHeld ?_
  rotate_left
  · (intro w hSw; obtain ⟨qx, qx0, qx1, qx2, qx3, qx4, qx5⟩ := HXB.out _ hSw; obtain ⟨qy, qy0, qy1, qy2, qy3, qy4, qy5⟩ := HYB.out _ hSw; go_simp <;> with_reducible rfl)
  try simp only [Act.put, List.setIfInBounds_toArray, List.set_cons_zero, List.set_cons_succ]
  refine wpAnyH_take (i := 19) (oi := { dst := some 58, op := _, type := _, pos := _, after := _, guard := _ }) (v := ?_) rfl (by kernel_rfl) (by kernel_rfl) (by kernel_rfl) (fun _ _ _ h => h) (Or.inl ⟨by rfl, ?_⟩) hHeld ?_
  rotate_left
  · (intro w hSw; obtain ⟨qx, qx0, qx1, qx2, qx3, qx4, qx5⟩ := HXB.out _ hSw; obtain ⟨qy, qy0, qy1, qy2, qy3, qy4, qy5⟩ := HYB.out _ hSw; go_simp <;> with_reducible rfl)
  try simp only [Act.put, List.setIfInBounds_toArray, List.set_cons_zero, List.set_cons_succ]
  refine wpAnyH_ready (rs := [20]) (by kernel_rfl) (by simp) ?_
  refine AllReadyH.cons (o := { dst := some 59, op := _, type := _, pos := _, after := _, guard := _ }) rfl (fun K hK => ?_) AllReadyH.nil
  go_simp
  refine (HLV.out _).mono ?_
  rintro e u20 ⟨rfl, hk20⟩
  have hKeep := since_step hHeld hk20
  go_wp2_with fail
  refine hK.out _ _ (by (try dsimp only); exact hKeep) (fun hHeld => ?_)
  clear hK K hKeep
  try simp only [Act.put, List.setIfInBounds_toArray, List.set_cons_zero, List.set_cons_succ]
  refine wpAnyH_take (i := 21) (oi := { dst := some 60, op := _, type := _, pos := _, after := _, guard := _ }) (v := ?_) rfl (by kernel_rfl) (by kernel_rfl) (by kernel_rfl) (fun _ _ _ h => h) (Or.inl ⟨by rfl, ?_⟩) hHeld ?_
  rotate_left
  · (intro w hSw; obtain ⟨qx, qx0, qx1, qx2, qx3, qx4, qx5⟩ := HXB.out _ hSw; obtain ⟨qy, qy0, qy1, qy2, qy3, qy4, qy5⟩ := HYB.out _ hSw; go_simp <;> with_reducible rfl)
  try simp only [Act.put, List.setIfInBounds_toArray, List.set_cons_zero, List.set_cons_succ]
  refine wpAnyH_take (i := 22) (oi := { dst := some 4, op := _, type := _, pos := _, after := _, guard := _ }) (v := ?_) rfl (by kernel_rfl) (by kernel_rfl) (by kernel_rfl) (fun _ _ _ h => h) (Or.inl ⟨by rfl, ?_⟩) hHeld ?_
  rotate_left
  · (intro w hSw; obtain ⟨qx, qx0, qx1, qx2, qx3, qx4, qx5⟩ := HXB.out _ hSw; obtain ⟨qy, qy0, qy1, qy2, qy3, qy4, qy5⟩ := HYB.out _ hSw; go_simp <;> with_reducible rfl)
  try simp only [Act.put, List.setIfInBounds_toArray, List.set_cons_zero, List.set_cons_succ]
  refine wpAnyH_done (by kernel_rfl) ?_ _
  have hBf := hB.trans (hHeld.mono hszU)
  go_wp2_with fail
  go_ret
  exact ⟨rfl, hBf⟩
end Go.Proofs.Ytfibpkbbpnjepaa
