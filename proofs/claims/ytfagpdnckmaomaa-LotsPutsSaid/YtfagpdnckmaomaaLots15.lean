/-
  Layer 18, fifteenth part: lives, LotsPuts (laid by gen_lots15.py).
-/
import Derived.Test.YtfagpdnckmaomaaLots13
import Derived.Test.YtfagpdnckmaomaaLots14
namespace Go.Proofs.Ytfagpdnckmaomaa
open Go.ChangeShapes Go.WideShapes Go.ChangeAt Go.RowKit
set_option linter.unusedVariables false
set_option linter.unusedSimpArgs false

theorem rd_ltrow {w : World} {r : List Value} (h : Rd w (.cat (.int .i64) (.cat (.int .i64) (.cat (.int .i64) .nil))) r) : ∃ g : Lt, r = g.cells ∧ In64 g.qty := by
  obtain ⟨p, q, rfl, ⟨a, rfl, _⟩, ⟨p2, q2, rfl, ⟨b, rfl, _⟩, ⟨p3, q3, rfl, ⟨c, rfl, hc⟩, rfl⟩⟩⟩ := h
  exact ⟨⟨a, b, c⟩, rfl, bd_i64 hc⟩
theorem rd_ltv {w : World} {a : Array Value} (h : Rd w (.cat (.int .i64) (.cat (.int .i64) (.cat (.int .i64) .nil))) a.toList) : ∃ v : Lt, .agg a = v.val ∧ In64 v.qty := by
  obtain ⟨v, hv, hq⟩ := rd_ltrow h
  refine ⟨v, ?_, hq⟩
  cases a
  simp at hv
  subst hv
  rfl
theorem putLR_len (l : List Lt) (x : Lt) : (putLR l x).2.length ≤ l.length + 1 := by
  unfold putLR
  split
  · simp
  · split
    · simp
    · split
      · simp
      · exact length_putR _ _
theorem takeLR_len (l : List Lt) (x : Lt) : (takeLR l x).2.length ≤ l.length + 1 := by
  unfold takeLR
  split
  · simp
  · split
    · simp
    · split
      · exact Nat.le_trans (List.length_filter_le _ _) (Nat.le_succ _)
      · exact length_putR _ _
set_option maxHeartbeats 4000000 in
set_option maxRecDepth 100000 in
theorem lives18_any (w : World) : Calls Try.prog 55 #[] w fun e w' => e = .returned (.bool true) ∧ Below w.heap.size w w' := by
  have hD := Lib.hid (fun A W h => ldraw_any A 2 [⟨1, 0, 5⟩, ⟨1, 3, 4⟩] 1 7 W (by decide) (by decide) (by decide) h)
  have e : drawR [⟨1, 0, 5⟩, ⟨1, 3, 4⟩] 1 7 = (0, [⟨1, 0, 5⟩, ⟨1, 3, 2⟩], [⟨1, 3, 2⟩]) := by decide
  rw [e] at hD
  clear e
  have HSA := Lib.hid (fun A c A2 W h1 h2 => rlsame_any_self A A2 c 2 [⟨1, 0, 5⟩, ⟨1, 3, 2⟩] W (by decide) h1 h2)
  have HSB := Lib.hid (fun A c A2 W h1 h2 => rlsame_any_self A A2 c 1 [⟨1, 3, 2⟩] W (by decide) h1 h2)
  have hsl := Sl.new_ w (rc Lt.cells [⟨1, 0, 5⟩, ⟨1, 3, 4⟩]) 74
  have HS : Hid (Sl (w.alloc (.cells #[.int .i64 1, .int .i64 0, .int .i64 5, .int .i64 1, .int .i64 3, .int .i64 4] 74)) (some ⟨w.heap.size, 0, none⟩) (rc Lt.cells [⟨1, 0, 5⟩, ⟨1, 3, 4⟩])) := Lib.hid hsl
  have hB := since_alloc (Below.refl _ w) (.cells #[.int .i64 1, .int .i64 0, .int .i64 5, .int .i64 1, .int .i64 3, .int .i64 4] 74)
  clear hsl
  unfold DRes at hD
  simp only [List.length_cons, List.length_nil] at hD HSA HSB
  go_enter Try.func55, Try.ntmps55
  go_wp2_with fail
  refine (hD.out _ _ HS.out).mono ?_
  rintro e w1 ⟨⟨A1, c1, A2, c2, rfl, own1, own2⟩, hb1⟩
  have hB1 := since_step hB hb1
  have s1 := Sl.of_own own1
  have s2 := Sl.of_own own2
  clear own1 own2 hb1
  go_wp2_with fail
  refine (HSA.out _ _ _ _ (s1.alloc _) (Sl.new_ w1 (rc Lt.cells [⟨1, 0, 5⟩, ⟨1, 3, 2⟩]) 74)).mono ?_
  rintro e w2 ⟨rfl, hb2⟩
  have hb2' := since_step (since_alloc (Below.refl _ w1) (.cells #[.int .i64 1, .int .i64 0, .int .i64 5, .int .i64 1, .int .i64 3, .int .i64 2] 74)) hb2
  have hB2 := since_step hB1 hb2'
  have s2 := s2.below hb2'
  clear hb2 hb2'
  go_wp2_with fail
  refine (HSB.out _ _ _ _ (s2.alloc _) (Sl.new_ w2 (rc Lt.cells [⟨1, 3, 2⟩]) 74)).mono ?_
  rintro e w3 ⟨rfl, hb3⟩
  have hb3' := since_step (since_alloc (Below.refl _ w2) (.cells #[.int .i64 1, .int .i64 3, .int .i64 2] 74)) hb3
  have hB3 := since_step hB2 hb3'
  go_wp2_with fail
  go_ret
  exact ⟨rfl, hB3⟩

set_option maxHeartbeats 16000000 in
set_option maxRecDepth 100000 in
theorem walk_LotsPuts (a0 : Option Addr) (n0 c0 : Nat) (a1 : Array Value) (w : World) (w0 : Rd w (.sl (.cat (.int .i64) (.cat (.int .i64) (.cat (.int .i64) .nil)))) [.slice a0 n0 c0]) (w1 : Rd w (.cat (.int .i64) (.cat (.int .i64) (.cat (.int .i64) .nil))) a1.toList) :
    Calls Try.prog 9 #[.slice a0 n0 c0, .agg a1] w fun e w' => e = .returned (.bool true) ∧ Below w.heap.size w w' := by
  obtain ⟨l, rfl, hlc, hcm, hs, hq⟩ := rd_rowsP (f := Lt.cells) (fun r => rd_ltrow) w0
  obtain ⟨v, hv, hv6⟩ := rd_ltv w1
  rw [hv]
  clear hv w0 w1
  obtain ⟨L, hL⟩ : ∃ L, l.take 20 = L := ⟨_, rfl⟩
  have hL20 : L.length ≤ 20 := by rw [← hL]; simp; omega
  have hLq : ∀ y ∈ L, In64 y.qty := fun y hy => hq y (by rw [← hL] at hy; exact List.mem_of_mem_take hy)
  have hsL : Sl w a0 (rc Lt.cells L) := by rw [← hL, ← rc_take Lt.len]; exact hs.take _
  have HFW := few18_any a0 c0 l
  rw [hL] at HFW
  have HFW := Lib.hid (fun V h => HFW V hlc hcm h)
  have hB := since_alloc (Below.refl _ w) (.cells v.cells.toArray 74)
  have hV := Lt.Bx.new w v
  have hs := hs.alloc (.cells v.cells.toArray 74)
  have hsL := hsL.alloc (.cells v.cells.toArray 74)
  have HIS := Lib.hid (fun V h => lis_any a0 c0 L V (by omega) h)
  have HRI := Lib.hid (fun V h => ris_any a0 c0 L V (by omega) h)
  have HSM := Lib.hid (fun V h => lsum_any a0 c0 L v.ast V (by omega) hLq h)
  have HRS := Lib.hid (fun V h => rsum_any a0 c0 L v.ast V (by omega) hLq h)
  have H128 := Lib.hid (sum64_128 (by have := qsL_len L v.ast; omega) (qsL_in hLq v.ast))
  have HWD := Lib.hid (fun V => rwide_any (qsL L v.ast).sum H128.out V)
  have HGT := Lib.hid (fun V h => lget_any a0 c0 L v.ast v.tag V (by omega) h)
  have HRG := Lib.hid (fun V h => rlget_any a0 c0 L v.ast v.tag V (by omega) h)
  have HP := Lib.hid (fun V h => lput_any a0 c0 L v V (by omega) hv6 hLq h)
  have HRP := Lib.hid (fun V h => rput_any a0 c0 L v V (by omega) hv6 hLq h)
  have HT := Lib.hid (fun V h => ltake_any a0 c0 L v V (by omega) hv6 hLq h)
  have HRT := Lib.hid (fun V h => rtake_any a0 c0 L v V (by omega) hv6 hLq h)
  have hpl := putLR_len L v
  have htl := takeLR_len L v
  obtain ⟨pn, PL, hPL⟩ : ∃ n R, putLR L v = (n, R) := ⟨_, _, rfl⟩
  obtain ⟨tn, TL, hTL⟩ : ∃ n R, takeLR L v = (n, R) := ⟨_, _, rfl⟩
  rw [hPL] at HP HRP hpl
  rw [hTL] at HT HRT htl
  have hPl : PL.length ≤ 1000000 := by simp only at hpl; omega
  have hTl : TL.length ≤ 1000000 := by simp only at htl; omega
  have hpn : (pn == pn) = true := by simp
  have htn : (tn == tn) = true := by simp
  have HSP := Lib.hid (fun A A2 c c2 V h1 h2 => rlsame_any_self A A2 c c2 PL V hPl h1 h2)
  have HST := Lib.hid (fun A A2 c c2 V h1 h2 => rlsame_any_self A A2 c c2 TL V hTl h1 h2)
  unfold LRes at HP HRP HT HRT
  simp only at HP HRP HT HRT
  generalize (qsL L v.ast).sum = sm at *
  generalize getL L v.ast v.tag = gt at *
  generalize isLs L = bi at *
  have hgt : (gt == gt) = true := by simp
  have hgt2 : (gt != gt) = false := by simp
  have hbi : (bi == bi) = true := by simp
  have hbi2 : (bi != bi) = false := by simp
  clear hpl htl hPL hTL hL hq hLq hlc hcm hv6 hPl hTl
  obtain ⟨va, vt, vq⟩ := v
  unfold Lt.val at *
  unfold Lt.cells at hB hV
  simp only [Lt.cells] at hs hsL
  simp only at *
  go_enter Try.func9, Try.ntmps9
  go_upto_region 1 with fail
  generalize hWW : w.alloc (.cells #[.int .i64 va, .int .i64 vt, .int .i64 vq] 74) = W at *
  clear hWW
  obtain ⟨hV_0, hV_1, hV_2⟩ := hV.got
  have hV_l := hV.lt
  go_wp2_with fail
  refine (HFW.out _ hs).mono ?_
  rintro e z1 ⟨rfl, hb⟩
  have hB := since_step hB hb
  have hV := hV.below hb
  have hs := hs.below hb
  have hsL := hsL.below hb
  clear hb
  clear hV_0 hV_1 hV_2 hV_l
  clear hs
  obtain ⟨hV_0, hV_1, hV_2⟩ := hV.got
  have hV_l := hV.lt
  go_wp2_with fail
  refine (HSM.out _ hsL).mono ?_
  rintro e z2 ⟨rfl, hb⟩
  have hB := since_step hB hb
  have hV := hV.below hb
  have hsL := hsL.below hb
  clear hb
  clear hV_0 hV_1 hV_2 hV_l
  obtain ⟨hV_0, hV_1, hV_2⟩ := hV.got
  have hV_l := hV.lt
  go_upto_region 3 with fail
  have hK := Bk.new z2 #[.int .i64 (hiN sm), .int .u64 (loN sm)] 52
  have hA := (Below.refl z2.heap.size z2).alloc (Nat.le_refl _) (.cells #[.int .i64 (hiN sm), .int .u64 (loN sm)] 52)
  have hV := hV.below hA
  have hsL := hsL.below hA
  have hB := since_step hB hA
  clear hA
  generalize hWW : z2.alloc (.cells #[.int .i64 (hiN sm), .int .u64 (loN sm)] 52) = U at *
  clear hWW
  clear hV_0 hV_1 hV_2 hV_l
  have HV : Hid (∀ V, Below U.heap.size U V → Lt.Bx V w.heap.size ⟨va, vt, vq⟩) := Lib.hid fun V h => hV.below h
  have HK : Hid (∀ V, Below U.heap.size U V → Bk V z2.heap.size #[.int .i64 (hiN sm), .int .u64 (loN sm)]) := Lib.hid fun V h => hK.below h
  have HSL : Hid (∀ V, Below U.heap.size U V → Sl V a0 (rc Lt.cells L)) := Lib.hid fun V h => hsL.below h
  have hszU := hB.size
  clear hV hK hsL
  go_wp2_with fail
  refine wp_region_held_drew (S := (fun V => Below U.heap.size U V)) (by kernel_rfl) (by exact (Below.refl _ _).drew) (fun hHeld => ?_)
  refine wpAnyH_take (i := 0) (oi := { dst := some 20, op := _, type := _, pos := _, after := _, guard := _ }) (v := ?_) rfl (by kernel_rfl) (by kernel_rfl) (by kernel_rfl) (fun _ _ _ h => h) (Or.inl ⟨by rfl, ?_⟩) hHeld ?_
  rotate_left
  · (intro w hSw; obtain ⟨q0, q1, q2⟩ := (HV.out _ hSw).got; simp only at q0 q1 q2; obtain ⟨lk, ck⟩ := HK.out _ hSw; have k0 := ck 0; have k1 := ck 1; simp at k0 k1; clear ck; go_simp <;> with_reducible rfl)
  try simp only [Act.put, List.setIfInBounds_toArray, List.set_cons_zero, List.set_cons_succ]
  refine wpAnyH_take (i := 2) (oi := { dst := some 22, op := _, type := _, pos := _, after := _, guard := _ }) (v := ?_) rfl (by kernel_rfl) (by kernel_rfl) (by kernel_rfl) (fun _ _ _ h => h) (Or.inl ⟨by rfl, ?_⟩) hHeld ?_
  rotate_left
  · (intro w hSw; obtain ⟨q0, q1, q2⟩ := (HV.out _ hSw).got; simp only at q0 q1 q2; obtain ⟨lk, ck⟩ := HK.out _ hSw; have k0 := ck 0; have k1 := ck 1; simp at k0 k1; clear ck; go_simp <;> with_reducible rfl)
  try simp only [Act.put, List.setIfInBounds_toArray, List.set_cons_zero, List.set_cons_succ]
  refine wpAnyH_ready (rs := [1]) (by kernel_rfl) (by simp) ?_
  refine AllReadyH.cons (o := { dst := some 21, op := _, type := _, pos := _, after := _, guard := _ }) rfl (fun K hK => ?_) AllReadyH.nil
  go_simp
  refine (HIS.out _ (HSL.out _ hHeld)).mono ?_
  rintro e u1 ⟨rfl, hk1⟩
  have hKeep := since_step hHeld hk1
  go_wp2_with fail
  refine hK.out _ _ (by (try dsimp only); exact hKeep) (fun hHeld => ?_)
  clear hK K hKeep
  try simp only [Act.put, List.setIfInBounds_toArray, List.set_cons_zero, List.set_cons_succ]
  refine wpAnyH_ready (rs := [3]) (by kernel_rfl) (by simp) ?_
  refine AllReadyH.cons (o := { dst := some 23, op := _, type := _, pos := _, after := _, guard := _ }) rfl (fun K hK => ?_) AllReadyH.nil
  go_simp
  refine (HRI.out _ (HSL.out _ hHeld)).mono ?_
  rintro e u2 ⟨rfl, hk2⟩
  have hKeep := since_step hHeld hk2
  go_wp2_with fail
  refine hK.out _ _ (by (try dsimp only); exact hKeep) (fun hHeld => ?_)
  clear hK K hKeep
  try simp only [Act.put, List.setIfInBounds_toArray, List.set_cons_zero, List.set_cons_succ]
  refine wpAnyH_take (i := 4) (oi := { dst := some 24, op := _, type := _, pos := _, after := _, guard := _ }) (v := ?_) rfl (by kernel_rfl) (by kernel_rfl) (by kernel_rfl) (fun _ _ _ h => h) (Or.inl ⟨by rfl, ?_⟩) hHeld ?_
  rotate_left
  · (intro w hSw; obtain ⟨q0, q1, q2⟩ := (HV.out _ hSw).got; simp only at q0 q1 q2; obtain ⟨lk, ck⟩ := HK.out _ hSw; have k0 := ck 0; have k1 := ck 1; simp at k0 k1; clear ck; go_simp <;> with_reducible rfl)
  try simp only [Act.put, List.setIfInBounds_toArray, List.set_cons_zero, List.set_cons_succ]
  refine wpAnyH_take (i := 5) (oi := { dst := some 25, op := _, type := _, pos := _, after := _, guard := _ }) (v := ?_) rfl (by kernel_rfl) (by kernel_rfl) (by kernel_rfl) (fun _ _ _ h => h) (Or.inl ⟨by rfl, ?_⟩) hHeld ?_
  rotate_left
  · (intro w hSw; obtain ⟨q0, q1, q2⟩ := (HV.out _ hSw).got; simp only at q0 q1 q2; obtain ⟨lk, ck⟩ := HK.out _ hSw; have k0 := ck 0; have k1 := ck 1; simp at k0 k1; clear ck; go_simp <;> with_reducible rfl)
  try simp only [Act.put, List.setIfInBounds_toArray, List.set_cons_zero, List.set_cons_succ]
  refine wpAnyH_take (i := 6) (oi := { dst := some 26, op := _, type := _, pos := _, after := _, guard := _ }) (v := ?_) rfl (by kernel_rfl) (by kernel_rfl) (by kernel_rfl) (fun _ _ _ h => h) (Or.inl ⟨by rfl, ?_⟩) hHeld ?_
  rotate_left
  · (intro w hSw; obtain ⟨q0, q1, q2⟩ := (HV.out _ hSw).got; simp only at q0 q1 q2; obtain ⟨lk, ck⟩ := HK.out _ hSw; have k0 := ck 0; have k1 := ck 1; simp at k0 k1; clear ck; go_simp <;> with_reducible rfl)
  try simp only [Act.put, List.setIfInBounds_toArray, List.set_cons_zero, List.set_cons_succ]
  refine wpAnyH_take (i := 7) (oi := { dst := some 27, op := _, type := _, pos := _, after := _, guard := _ }) (v := ?_) rfl (by kernel_rfl) (by kernel_rfl) (by kernel_rfl) (fun _ _ _ h => h) (Or.inl ⟨by rfl, ?_⟩) hHeld ?_
  rotate_left
  · (intro w hSw; obtain ⟨q0, q1, q2⟩ := (HV.out _ hSw).got; simp only at q0 q1 q2; obtain ⟨lk, ck⟩ := HK.out _ hSw; have k0 := ck 0; have k1 := ck 1; simp at k0 k1; clear ck; go_simp <;> with_reducible rfl)
  try simp only [Act.put, List.setIfInBounds_toArray, List.set_cons_zero, List.set_cons_succ]
  refine wpAnyH_take (i := 8) (oi := { dst := some 28, op := _, type := _, pos := _, after := _, guard := _ }) (v := ?_) rfl (by kernel_rfl) (by kernel_rfl) (by kernel_rfl) (fun _ _ _ h => h) (Or.inl ⟨by rfl, ?_⟩) hHeld ?_
  rotate_left
  · (intro w hSw; obtain ⟨q0, q1, q2⟩ := (HV.out _ hSw).got; simp only at q0 q1 q2; obtain ⟨lk, ck⟩ := HK.out _ hSw; have k0 := ck 0; have k1 := ck 1; simp at k0 k1; clear ck; go_simp <;> with_reducible rfl)
  try simp only [Act.put, List.setIfInBounds_toArray, List.set_cons_zero, List.set_cons_succ]
  refine wpAnyH_take (i := 9) (oi := { dst := some 29, op := _, type := _, pos := _, after := _, guard := _ }) (v := ?_) rfl (by kernel_rfl) (by kernel_rfl) (by kernel_rfl) (fun _ _ _ h => h) (Or.inl ⟨by rfl, ?_⟩) hHeld ?_
  rotate_left
  · (intro w hSw; obtain ⟨q0, q1, q2⟩ := (HV.out _ hSw).got; simp only at q0 q1 q2; obtain ⟨lk, ck⟩ := HK.out _ hSw; have k0 := ck 0; have k1 := ck 1; simp at k0 k1; clear ck; go_simp <;> with_reducible rfl)
  try simp only [Act.put, List.setIfInBounds_toArray, List.set_cons_zero, List.set_cons_succ]
  refine wpAnyH_take (i := 10) (oi := { dst := some 30, op := _, type := _, pos := _, after := _, guard := _ }) (v := ?_) rfl (by kernel_rfl) (by kernel_rfl) (by kernel_rfl) (fun _ _ _ h => h) (Or.inl ⟨by rfl, ?_⟩) hHeld ?_
  rotate_left
  · (intro w hSw; obtain ⟨q0, q1, q2⟩ := (HV.out _ hSw).got; simp only at q0 q1 q2; obtain ⟨lk, ck⟩ := HK.out _ hSw; have k0 := ck 0; have k1 := ck 1; simp at k0 k1; clear ck; go_simp <;> with_reducible rfl)
  try simp only [Act.put, List.setIfInBounds_toArray, List.set_cons_zero, List.set_cons_succ]
  refine wpAnyH_take (i := 12) (oi := { dst := some 32, op := _, type := _, pos := _, after := _, guard := _ }) (v := ?_) rfl (by kernel_rfl) (by kernel_rfl) (by kernel_rfl) (fun _ _ _ h => h) (Or.inl ⟨by rfl, ?_⟩) hHeld ?_
  rotate_left
  · (intro w hSw; obtain ⟨q0, q1, q2⟩ := (HV.out _ hSw).got; simp only at q0 q1 q2; obtain ⟨lk, ck⟩ := HK.out _ hSw; have k0 := ck 0; have k1 := ck 1; simp at k0 k1; clear ck; go_simp <;> with_reducible rfl)
  try simp only [Act.put, List.setIfInBounds_toArray, List.set_cons_zero, List.set_cons_succ]
  refine wpAnyH_take (i := 13) (oi := { dst := some 33, op := _, type := _, pos := _, after := _, guard := _ }) (v := ?_) rfl (by kernel_rfl) (by kernel_rfl) (by kernel_rfl) (fun _ _ _ h => h) (Or.inl ⟨by rfl, ?_⟩) hHeld ?_
  rotate_left
  · (intro w hSw; obtain ⟨q0, q1, q2⟩ := (HV.out _ hSw).got; simp only at q0 q1 q2; obtain ⟨lk, ck⟩ := HK.out _ hSw; have k0 := ck 0; have k1 := ck 1; simp at k0 k1; clear ck; go_simp <;> with_reducible rfl)
  try simp only [Act.put, List.setIfInBounds_toArray, List.set_cons_zero, List.set_cons_succ]
  refine wpAnyH_take (i := 14) (oi := { dst := some 34, op := _, type := _, pos := _, after := _, guard := _ }) (v := ?_) rfl (by kernel_rfl) (by kernel_rfl) (by kernel_rfl) (fun _ _ _ h => h) (Or.inl ⟨by rfl, ?_⟩) hHeld ?_
  rotate_left
  · (intro w hSw; obtain ⟨q0, q1, q2⟩ := (HV.out _ hSw).got; simp only at q0 q1 q2; obtain ⟨lk, ck⟩ := HK.out _ hSw; have k0 := ck 0; have k1 := ck 1; simp at k0 k1; clear ck; go_simp <;> with_reducible rfl)
  try simp only [Act.put, List.setIfInBounds_toArray, List.set_cons_zero, List.set_cons_succ]
  refine wpAnyH_take (i := 15) (oi := { dst := some 35, op := _, type := _, pos := _, after := _, guard := _ }) (v := ?_) rfl (by kernel_rfl) (by kernel_rfl) (by kernel_rfl) (fun _ _ _ h => h) (Or.inl ⟨by rfl, ?_⟩) hHeld ?_
  rotate_left
  · (intro w hSw; obtain ⟨q0, q1, q2⟩ := (HV.out _ hSw).got; simp only at q0 q1 q2; obtain ⟨lk, ck⟩ := HK.out _ hSw; have k0 := ck 0; have k1 := ck 1; simp at k0 k1; clear ck; go_simp <;> with_reducible rfl)
  try simp only [Act.put, List.setIfInBounds_toArray, List.set_cons_zero, List.set_cons_succ]
  refine wpAnyH_take (i := 16) (oi := { dst := some 36, op := _, type := _, pos := _, after := _, guard := _ }) (v := ?_) rfl (by kernel_rfl) (by kernel_rfl) (by kernel_rfl) (fun _ _ _ h => h) (Or.inl ⟨by rfl, ?_⟩) hHeld ?_
  rotate_left
  · (intro w hSw; obtain ⟨q0, q1, q2⟩ := (HV.out _ hSw).got; simp only at q0 q1 q2; obtain ⟨lk, ck⟩ := HK.out _ hSw; have k0 := ck 0; have k1 := ck 1; simp at k0 k1; clear ck; go_simp <;> with_reducible rfl)
  try simp only [Act.put, List.setIfInBounds_toArray, List.set_cons_zero, List.set_cons_succ]
  refine wpAnyH_ready (rs := [11]) (by kernel_rfl) (by simp) ?_
  refine AllReadyH.cons (o := { dst := some 31, op := _, type := _, pos := _, after := _, guard := _ }) rfl (fun K hK => ?_) AllReadyH.nil
  go_simp
  refine (HGT.out _ (HSL.out _ hHeld)).mono ?_
  rintro e u3 ⟨rfl, hk3⟩
  have hKeep := since_step hHeld hk3
  go_wp2_with fail
  refine hK.out _ _ (by (try dsimp only); exact hKeep) (fun hHeld => ?_)
  clear hK K hKeep
  try simp only [Act.put, List.setIfInBounds_toArray, List.set_cons_zero, List.set_cons_succ]
  refine wpAnyH_ready (rs := [17]) (by kernel_rfl) (by simp) ?_
  refine AllReadyH.cons (o := { dst := some 37, op := _, type := _, pos := _, after := _, guard := _ }) rfl (fun K hK => ?_) AllReadyH.nil
  go_simp
  refine (HRG.out _ (HSL.out _ hHeld)).mono ?_
  rintro e u4 ⟨rfl, hk4⟩
  have hKeep := since_step hHeld hk4
  go_wp2_with fail
  refine hK.out _ _ (by (try dsimp only); exact hKeep) (fun hHeld => ?_)
  clear hK K hKeep
  try simp only [Act.put, List.setIfInBounds_toArray, List.set_cons_zero, List.set_cons_succ]
  refine wpAnyH_take (i := 18) (oi := { dst := some 38, op := _, type := _, pos := _, after := _, guard := _ }) (v := ?_) rfl (by kernel_rfl) (by kernel_rfl) (by kernel_rfl) (fun _ _ _ h => h) (Or.inl ⟨by rfl, ?_⟩) hHeld ?_
  rotate_left
  · (intro w hSw; obtain ⟨q0, q1, q2⟩ := (HV.out _ hSw).got; simp only at q0 q1 q2; obtain ⟨lk, ck⟩ := HK.out _ hSw; have k0 := ck 0; have k1 := ck 1; simp at k0 k1; clear ck; go_simp <;> with_reducible rfl)
  try simp only [Act.put, List.setIfInBounds_toArray, List.set_cons_zero, List.set_cons_succ]
  refine wpAnyH_take (i := 19) (oi := { dst := some 39, op := _, type := _, pos := _, after := _, guard := _ }) (v := ?_) rfl (by kernel_rfl) (by kernel_rfl) (by kernel_rfl) (fun _ _ _ h => h) (Or.inl ⟨by rfl, ?_⟩) hHeld ?_
  rotate_left
  · (intro w hSw; obtain ⟨q0, q1, q2⟩ := (HV.out _ hSw).got; simp only at q0 q1 q2; obtain ⟨lk, ck⟩ := HK.out _ hSw; have k0 := ck 0; have k1 := ck 1; simp at k0 k1; clear ck; go_simp <;> with_reducible rfl)
  try simp only [Act.put, List.setIfInBounds_toArray, List.set_cons_zero, List.set_cons_succ]
  refine wpAnyH_take (i := 20) (oi := { dst := some 40, op := _, type := _, pos := _, after := _, guard := _ }) (v := ?_) rfl (by kernel_rfl) (by kernel_rfl) (by kernel_rfl) (fun _ _ _ h => h) (Or.inl ⟨by rfl, ?_⟩) hHeld ?_
  rotate_left
  · (intro w hSw; obtain ⟨q0, q1, q2⟩ := (HV.out _ hSw).got; simp only at q0 q1 q2; obtain ⟨lk, ck⟩ := HK.out _ hSw; have k0 := ck 0; have k1 := ck 1; simp at k0 k1; clear ck; go_simp <;> with_reducible rfl)
  try simp only [Act.put, List.setIfInBounds_toArray, List.set_cons_zero, List.set_cons_succ]
  refine wpAnyH_take (i := 21) (oi := { dst := some 41, op := _, type := _, pos := _, after := _, guard := _ }) (v := ?_) rfl (by kernel_rfl) (by kernel_rfl) (by kernel_rfl) (fun _ _ _ h => h) (Or.inl ⟨by rfl, ?_⟩) hHeld ?_
  rotate_left
  · (intro w hSw; obtain ⟨q0, q1, q2⟩ := (HV.out _ hSw).got; simp only at q0 q1 q2; obtain ⟨lk, ck⟩ := HK.out _ hSw; have k0 := ck 0; have k1 := ck 1; simp at k0 k1; clear ck; go_simp <;> with_reducible rfl)
  try simp only [Act.put, List.setIfInBounds_toArray, List.set_cons_zero, List.set_cons_succ]
  refine wpAnyH_take (i := 22) (oi := { dst := some 42, op := _, type := _, pos := _, after := _, guard := _ }) (v := ?_) rfl (by kernel_rfl) (by kernel_rfl) (by kernel_rfl) (fun _ _ _ h => h) (Or.inl ⟨by rfl, ?_⟩) hHeld ?_
  rotate_left
  · (intro w hSw; obtain ⟨q0, q1, q2⟩ := (HV.out _ hSw).got; simp only at q0 q1 q2; obtain ⟨lk, ck⟩ := HK.out _ hSw; have k0 := ck 0; have k1 := ck 1; simp at k0 k1; clear ck; go_simp <;> with_reducible rfl)
  try simp only [Act.put, List.setIfInBounds_toArray, List.set_cons_zero, List.set_cons_succ]
  refine wpAnyH_take (i := 23) (oi := { dst := some 43, op := _, type := _, pos := _, after := _, guard := _ }) (v := ?_) rfl (by kernel_rfl) (by kernel_rfl) (by kernel_rfl) (fun _ _ _ h => h) (Or.inl ⟨by rfl, ?_⟩) hHeld ?_
  rotate_left
  · (intro w hSw; obtain ⟨q0, q1, q2⟩ := (HV.out _ hSw).got; simp only at q0 q1 q2; obtain ⟨lk, ck⟩ := HK.out _ hSw; have k0 := ck 0; have k1 := ck 1; simp at k0 k1; clear ck; go_simp <;> with_reducible rfl)
  try simp only [Act.put, List.setIfInBounds_toArray, List.set_cons_zero, List.set_cons_succ]
  refine wpAnyH_take (i := 24) (oi := { dst := some 44, op := _, type := _, pos := _, after := _, guard := _ }) (v := ?_) rfl (by kernel_rfl) (by kernel_rfl) (by kernel_rfl) (fun _ _ _ h => h) (Or.inl ⟨by rfl, ?_⟩) hHeld ?_
  rotate_left
  · (intro w hSw; obtain ⟨q0, q1, q2⟩ := (HV.out _ hSw).got; simp only at q0 q1 q2; obtain ⟨lk, ck⟩ := HK.out _ hSw; have k0 := ck 0; have k1 := ck 1; simp at k0 k1; clear ck; go_simp <;> with_reducible rfl)
  try simp only [Act.put, List.setIfInBounds_toArray, List.set_cons_zero, List.set_cons_succ]
  refine wpAnyH_take (i := 26) (oi := { dst := some 46, op := _, type := _, pos := _, after := _, guard := _ }) (v := ?_) rfl (by kernel_rfl) (by kernel_rfl) (by kernel_rfl) (fun _ _ _ h => h) (Or.inl ⟨by rfl, ?_⟩) hHeld ?_
  rotate_left
  · (intro w hSw; obtain ⟨q0, q1, q2⟩ := (HV.out _ hSw).got; simp only at q0 q1 q2; obtain ⟨lk, ck⟩ := HK.out _ hSw; have k0 := ck 0; have k1 := ck 1; simp at k0 k1; clear ck; go_simp <;> with_reducible rfl)
  try simp only [Act.put, List.setIfInBounds_toArray, List.set_cons_zero, List.set_cons_succ]
  refine wpAnyH_take (i := 27) (oi := { dst := some 47, op := _, type := _, pos := _, after := _, guard := _ }) (v := ?_) rfl (by kernel_rfl) (by kernel_rfl) (by kernel_rfl) (fun _ _ _ h => h) (Or.inl ⟨by rfl, ?_⟩) hHeld ?_
  rotate_left
  · (intro w hSw; obtain ⟨q0, q1, q2⟩ := (HV.out _ hSw).got; simp only at q0 q1 q2; obtain ⟨lk, ck⟩ := HK.out _ hSw; have k0 := ck 0; have k1 := ck 1; simp at k0 k1; clear ck; go_simp <;> with_reducible rfl)
  try simp only [Act.put, List.setIfInBounds_toArray, List.set_cons_zero, List.set_cons_succ]
  refine wpAnyH_take (i := 28) (oi := { dst := some 48, op := _, type := _, pos := _, after := _, guard := _ }) (v := ?_) rfl (by kernel_rfl) (by kernel_rfl) (by kernel_rfl) (fun _ _ _ h => h) (Or.inl ⟨by rfl, ?_⟩) hHeld ?_
  rotate_left
  · (intro w hSw; obtain ⟨q0, q1, q2⟩ := (HV.out _ hSw).got; simp only at q0 q1 q2; obtain ⟨lk, ck⟩ := HK.out _ hSw; have k0 := ck 0; have k1 := ck 1; simp at k0 k1; clear ck; go_simp <;> with_reducible rfl)
  try simp only [Act.put, List.setIfInBounds_toArray, List.set_cons_zero, List.set_cons_succ]
  refine wpAnyH_ready (rs := [25]) (by kernel_rfl) (by simp) ?_
  refine AllReadyH.cons (o := { dst := some 45, op := _, type := _, pos := _, after := _, guard := _ }) rfl (fun K hK => ?_) AllReadyH.nil
  go_simp
  refine (HWD.out _).mono ?_
  rintro e u5 ⟨⟨s1, A1, n1, d1, rfl, hf1, Y1⟩, hk5⟩
  have hKeep := since_step hHeld hk5
  have L1 := Y1.l128 H128.out
  go_wp2_with fail
  refine hK.out _ _ (by (try dsimp only); exact hKeep) (fun hHeld => ?_)
  clear hK K hKeep
  try simp only [Act.put, List.setIfInBounds_toArray, List.set_cons_zero, List.set_cons_succ]
  refine wpAnyH_ready (rs := [29]) (by kernel_rfl) (by simp) ?_
  refine AllReadyH.cons (o := { dst := some 49, op := _, type := _, pos := _, after := _, guard := _ }) rfl (fun K hK => ?_) AllReadyH.nil
  go_simp
  refine (HRS.out _ (HSL.out _ hHeld)).mono ?_
  rintro e u6 ⟨⟨s2, A2, n2, d2, rfl, hf2, Y2⟩, hk6⟩
  have hKeep := since_step hHeld hk6
  have L2 := Y2.l128 H128.out
  have Y1 := Y1.below hk6
  go_wp2_with fail
  refine hK.out _ _ (by (try dsimp only); exact hKeep) (fun hHeld => ?_)
  clear hK K hKeep
  try simp only [Act.put, List.setIfInBounds_toArray, List.set_cons_zero, List.set_cons_succ]
  refine wpAnyH_ready (rs := [30]) (by kernel_rfl) (by simp) ?_
  refine AllReadyH.cons (o := { dst := some 50, op := _, type := _, pos := _, after := _, guard := _ }) rfl (fun K hK => ?_) AllReadyH.nil
  go_simp
  refine (bcmp_any _ _ _ _ _ _ _ _ _ _ _ (by omega) (by omega) Y1 Y2).mono ?_
  rintro e u7 ⟨rfl, hk7⟩
  have hKeep := since_step hHeld hk7
  have hcz : cmpZ sm sm = 0 := by unfold cmpZ; rw [if_pos rfl]
  rw [hcz]
  go_wp2_with fail
  refine hK.out _ _ (by (try dsimp only); exact hKeep) (fun hHeld => ?_)
  clear hK K hKeep
  try simp only [Act.put, List.setIfInBounds_toArray, List.set_cons_zero, List.set_cons_succ]
  refine wpAnyH_take (i := 31) (oi := { dst := some 51, op := _, type := _, pos := _, after := _, guard := _ }) (v := ?_) rfl (by kernel_rfl) (by kernel_rfl) (by kernel_rfl) (fun _ _ _ h => h) (Or.inl ⟨by rfl, ?_⟩) hHeld ?_
  rotate_left
  · (intro w hSw; obtain ⟨q0, q1, q2⟩ := (HV.out _ hSw).got; simp only at q0 q1 q2; obtain ⟨lk, ck⟩ := HK.out _ hSw; have k0 := ck 0; have k1 := ck 1; simp at k0 k1; clear ck; go_simp <;> with_reducible rfl)
  try simp only [Act.put, List.setIfInBounds_toArray, List.set_cons_zero, List.set_cons_succ]
  refine wpAnyH_take (i := 32) (oi := { dst := some 52, op := _, type := _, pos := _, after := _, guard := _ }) (v := ?_) rfl (by kernel_rfl) (by kernel_rfl) (by kernel_rfl) (fun _ _ _ h => h) (Or.inl ⟨by rfl, ?_⟩) hHeld ?_
  rotate_left
  · (intro w hSw; obtain ⟨q0, q1, q2⟩ := (HV.out _ hSw).got; simp only at q0 q1 q2; obtain ⟨lk, ck⟩ := HK.out _ hSw; have k0 := ck 0; have k1 := ck 1; simp at k0 k1; clear ck; go_simp <;> with_reducible rfl)
  try simp only [Act.put, List.setIfInBounds_toArray, List.set_cons_zero, List.set_cons_succ]
  refine wpAnyH_done (by kernel_rfl) ?_ _
  have hBf := hB.trans (hHeld.mono hszU)
  have hV := HV.out _ hHeld
  have hsL := HSL.out _ hHeld
  skip
  obtain ⟨hV_0, hV_1, hV_2⟩ := hV.got
  have hV_l := hV.lt
  go_wp2_with fail
  refine (HP.out _ hsL).mono ?_
  rintro e y1 ⟨⟨A1x, c1x, rfl, own1x⟩, hb⟩
  have hBf := since_step hBf hb
  have hV := hV.below hb
  have hsL := hsL.below hb
  clear hb
  clear hV_0 hV_1 hV_2 hV_l
  have h1x := Sl.of_own own1x
  clear own1x
  obtain ⟨hV_0, hV_1, hV_2⟩ := hV.got
  have hV_l := hV.lt
  go_wp2_with fail
  refine (HRP.out _ hsL).mono ?_
  rintro e y2 ⟨⟨A2x, c2x, rfl, own2x⟩, hb⟩
  have hBf := since_step hBf hb
  have hV := hV.below hb
  have hsL := hsL.below hb
  have h1x := h1x.below hb
  clear hb
  clear hV_0 hV_1 hV_2 hV_l
  have h2x := Sl.of_own own2x
  clear own2x
  obtain ⟨hV_0, hV_1, hV_2⟩ := hV.got
  have hV_l := hV.lt
  go_wp2_with fail
  refine (HT.out _ hsL).mono ?_
  rintro e y3 ⟨⟨A3x, c3x, rfl, own3x⟩, hb⟩
  have hBf := since_step hBf hb
  have hV := hV.below hb
  have hsL := hsL.below hb
  have h1x := h1x.below hb
  have h2x := h2x.below hb
  clear hb
  clear hV_0 hV_1 hV_2 hV_l
  have h3x := Sl.of_own own3x
  clear own3x
  obtain ⟨hV_0, hV_1, hV_2⟩ := hV.got
  have hV_l := hV.lt
  go_wp2_with fail
  refine (HRT.out _ hsL).mono ?_
  rintro e y4 ⟨⟨A4x, c4x, rfl, own4x⟩, hb⟩
  have hBf := since_step hBf hb
  have hV := hV.below hb
  have hsL := hsL.below hb
  have h1x := h1x.below hb
  have h2x := h2x.below hb
  have h3x := h3x.below hb
  clear hb
  clear hV_0 hV_1 hV_2 hV_l
  have h4x := Sl.of_own own4x
  clear own4x
  clear hsL
  obtain ⟨hV_0, hV_1, hV_2⟩ := hV.got
  have hV_l := hV.lt
  go_wp2_with fail
  refine (HSP.out _ _ _ _ _ h1x h2x).mono ?_
  rintro e y5 ⟨rfl, hb⟩
  have hBf := since_step hBf hb
  have hV := hV.below hb
  have h1x := h1x.below hb
  have h2x := h2x.below hb
  have h3x := h3x.below hb
  have h4x := h4x.below hb
  clear hb
  clear hV_0 hV_1 hV_2 hV_l
  obtain ⟨hV_0, hV_1, hV_2⟩ := hV.got
  have hV_l := hV.lt
  go_wp2_with fail
  refine (HST.out _ _ _ _ _ h3x h4x).mono ?_
  rintro e y6 ⟨rfl, hb⟩
  have hBf := since_step hBf hb
  have hV := hV.below hb
  have h1x := h1x.below hb
  have h2x := h2x.below hb
  have h3x := h3x.below hb
  have h4x := h4x.below hb
  clear hb
  clear hV_0 hV_1 hV_2 hV_l
  obtain ⟨hV_0, hV_1, hV_2⟩ := hV.got
  have hV_l := hV.lt
  go_wp2_with fail
  refine (lives18_any _).mono ?_
  rintro e y7 ⟨rfl, hb⟩
  have hBf := since_step hBf hb
  have hV := hV.below hb
  have h1x := h1x.below hb
  have h2x := h2x.below hb
  have h3x := h3x.below hb
  have h4x := h4x.below hb
  clear hb
  clear hV_0 hV_1 hV_2 hV_l
  obtain ⟨hV_0, hV_1, hV_2⟩ := hV.got
  have hV_l := hV.lt
  go_wp2_with fail
  go_ret
  exact ⟨rfl, hBf⟩
end Go.Proofs.Ytfagpdnckmaomaa
