import Derived.Test.YtahdmomadbbhoaaMk44
section
namespace Go.Proofs.Ytahdmomadbbhoaa
open Go.ChangeShapes Go.WideShapes Go.ChangeAt Go.RowKit
set_option linter.unusedVariables false
set_option linter.unusedSimpArgs false

theorem totF_128 {l : List Fw} (h : ∀ y ∈ l, In64 y.amt) (hl : l.length ≤ 900000) : In128 (totF l) := by
  have := amts_take_in h l.length hl
  unfold amts at this
  rw [List.take_length] at this
  exact this
def swG (g : Iq) : Iq := ⟨g.id, g.mult, g.nxt, g.price, g.mv, g.mvL, g.mvC⟩
theorem GI.sw {w : World} {g : Iq} {i : Ins} (h : GI w g i) : GI w (swG g) (swI i) := ⟨h.id, h.mult, h.nxt, h.price, h.len, ⟨h.at_.cap, h.at_.sl, h.at_.mv64, ⟨h.at_.n64.1, h.at_.n64.2.1, h.at_.n64.2.2.2, h.at_.n64.2.2.1⟩⟩⟩
theorem InTab.sw {w : World} : ∀ {l : List Iq} {is : List Ins}, InTab w l is → InTab w (l.map swG) (is.map swI) := fun {l is} h => ⟨by simp [h.1], fun k h1 h2 => by
  rw [List.getElem_map, List.getElem_map]
  exact (h.2 k (by simpa using h1) (by simpa using h2)).sw⟩
set_option maxHeartbeats 32000000 in
set_option maxRecDepth 100000 in
theorem walk_MarkZero (a0 : Option Addr) (n0 c0 : Nat) (a1 : Option Addr) (n1 c1 : Nat) (a2 : Option Addr) (n2 c2 : Nat) (w : World) (w0 : Rd w (.sl (.cat (.int .i64) (.cat (.int .i64) (.cat (.int .i64) (.cat (.int .i64) (.cat (.sl (.int .i64)) .nil)))))) [.slice a0 n0 c0]) (w1 : Rd w (.sl (.cat (.cat (.int .i64) (.cat (.int .i64) .nil)) (.cat (.sl (.cat (.int .i64) (.cat (.int .i64) .nil))) .nil))) [.slice a1 n1 c1]) (w2 : Rd w (.sl (.cat (.cat (.int .i64) (.cat (.int .i64) .nil)) (.cat (.int .i64) .nil))) [.slice a2 n2 c2]) :
    Calls Try.prog 4 #[.slice a0 n0 c0, .slice a1 n1 c1, .slice a2 n2 c2] w fun e w' => e = .returned (.bool true) ∧ Below w.heap.size w w' := by
  obtain ⟨l, rfl, _, _, hs0, hd0⟩ := rd_rowsP (f := Iq.cells) (fun r => rd_insrow) w0
  obtain ⟨lp, rfl, _, _, hp0, hd2⟩ := rd_rowsP (f := Po.cells) (fun r => rd_posk) w1
  obtain ⟨L, hL20, hLq, hsL, HF3⟩ := rd_fws w2
  clear w0 w1 w2
  have HI := Lib.hid (instsk_any a0 c0 l w hs0 hd0)
  have HF2 := Lib.hid (fun V (hV : Below w.heap.size w V) => few19k_any a1 c1 lp V (hp0.below hV) (fun g hg => (hd2 g hg).below hV))
  have HLV := Lib.hid (fun V => lives20_any V)
  clear hs0 hd0 hp0 hd2
  go_enter Try.func4, Try.ntmps4
  go_wp2_with fail
  refine HI.out.mono ?_
  rintro e z1 ⟨⟨R, is, A, c, rfl, hs, ht, hR, h9⟩, hB⟩
  clear HI
  go_wp2_with fail
  refine (HF2.out _ hB).mono ?_
  rintro e z3 ⟨⟨P, cs, PA, pc, rfl, hp, hpt, hcap, hPn, hgd, hky⟩, hb⟩
  have hB := since_step hB hb
  have hs := hs.below hb
  have ht := ht.below hb
  clear hb HF2 hcap
  have hsL := hsL.below hB
  go_wp2_with fail
  refine (HF3.out _ hB).mono ?_
  rintro e z4 ⟨rfl, hb⟩
  have hB := since_step hB hb
  have hs := hs.below hb
  have ht := ht.below hb
  have hp := hp.below hb
  have hpt := hpt.below hb
  have hsL := hsL.below hb
  clear hb HF3
  have hR9 : R.length ≤ 900000 := by omega
  have hcl9 : ∀ i ∈ is, i.mv.length ≤ 900000 := fun i hi => Nat.le_trans (h9 i hi).1 (by omega)
  have ho : OkT is := fun i hi => (h9 i hi).2
  have hP9 : P.length ≤ 900000 := by omega
  have hpl : ∀ g ∈ cs, g.L.length ≤ 1000 := fun g hg => Nat.le_trans (hgd.1 g hg) (by omega)
  have hpl9 : ∀ g ∈ cs, g.L.length ≤ 900000 := fun g hg => Nat.le_trans (hgd.1 g hg) (by omega)
  have hcsn : cs.length ≤ 10000 := by have := hpt.1; omega
  have hLn : L.length ≤ 10000 := by omega
  have HIS := Lib.hid (fun V (h : Below z4.heap.size z4 V) => his_any PA pc P cs V hP9 hpl9 (hp.below h) (hpt.below h))
  have HBL := Lib.hid (fun V (h : Below z4.heap.size z4 V) => bbal_any PA pc P cs V hP9 hpl9 hgd.2 (hp.below h) (hpt.below h))
  have HC3 := Lib.hid (fun V (h : Below z4.heap.size z4 V) => mflows_any A c R is PA pc P cs V hR9 hcl9 ho hP9 hpl hgd.2 (hs.below h) (ht.below h) (hp.below h) (hpt.below h))
  have HC5 := Lib.hid (fun V (h : Below z4.heap.size z4 V) => msettle_any A c R is PA pc P cs a2 c2 L V hR9 hcl9 ho hP9 hpl hgd.2 (hs.below h) (ht.below h) (hp.below h) (hpt.below h) hcsn hky hLn hLq (hsL.below h))
  have HTL := Lib.hid (fun V (h : Below z4.heap.size z4 V) => rptotal_any a2 c2 L V (by omega) (fun y hy => (hLq y hy).2.2) (hsL.below h))
  have hL128 := totF_128 (l := L) (fun y hy => (hLq y hy).2.2) (by omega)
  have hfl := flowsR_len is cs
  have hsl := settR_len is cs L
  have hfi := flowsR_in (is := is) hky
  have hsi := settR_in (is := is) hLq hky
  obtain ⟨qn, qO, hQ⟩ : ∃ n O, flowsR is cs = (n, O) := ⟨_, _, rfl⟩
  obtain ⟨tn, tO, hT⟩ : ∃ n O, settR is cs L = (n, O) := ⟨_, _, rfl⟩
  rw [hQ] at HC3 hfl hfi
  rw [hT] at HC5 hsl hsi
  simp only at hfl hsl hfi hsi
  have hC := Below.refl z4.heap.size z4
  clear hs ht hp hpt hR9 hcl9 ho hP9 hpl hpl9 hR h9 hPn hgd
  cases hi : isH cs with
  | false =>
    rw [hi] at HIS
    clear hi hQ hT hfl hsl hfi hsi hky hL20 hLq hsL hcsn hLn hL128
    go_wp2_with fail
    refine (HIS.out _ hC).mono ?_
    rintro e y1 ⟨rfl, hb⟩
    have hC := since_step hC hb
    clear hb
    go_wp2_with fail
    refine (HLV.out _).mono ?_
    rintro e yL ⟨rfl, hb⟩
    have hC := since_step hC hb
    clear hb
    go_wp2_with fail
    go_ret
    exact ⟨rfl, hB.trans (hC.mono hB.size)⟩
  | true =>
    rw [hi] at HIS
    cases hbl : balP cs with
    | false =>
      rw [hbl] at HBL
      clear hi hbl hQ hT hfl hsl hfi hsi hky hL20 hLq hsL hcsn hLn hL128
      go_wp2_with fail
      refine (HIS.out _ hC).mono ?_
      rintro e y1 ⟨rfl, hb⟩
      have hC := since_step hC hb
      clear hb
      go_wp2_with fail
      refine (HBL.out _ hC).mono ?_
      rintro e y2 ⟨rfl, hb⟩
      have hC := since_step hC hb
      clear hb
      go_wp2_with fail
      refine (HLV.out _).mono ?_
      rintro e yL ⟨rfl, hb⟩
      have hC := since_step hC hb
      clear hb
      go_wp2_with fail
      go_ret
      exact ⟨rfl, hB.trans (hC.mono hB.size)⟩
    | true =>
      rw [hbl] at HBL
      by_cases hn : qn = 0
      · subst hn
        have hz := flows_zero hQ hbl
        have hqi := flows_is hQ
        have HT1 := fun A' c' V (h : Sl V A' (rc Fw.cells qO)) => rptotal_any A' c' qO V (by omega) (fun y hy => (hfi y hy).2.2) h
        rw [hz] at HT1
        have HT1 := Lib.hid HT1
        have HP1 := fun A' c' V (h : Sl V A' (rc Fw.cells qO)) => pis_any A' c' qO V (by omega) h
        rw [hqi] at HP1
        have HP1 := Lib.hid HP1
        have HTQ := Lib.hid (fun A' c' V (h : Sl V A' (rc Fw.cells tO)) => rptotal_any A' c' tO V (by omega) (fun y hy => (hsi y hy).2.2) h)
        have HTT : Hid (tn = 0 → totF tO = totF L) := Lib.hid fun h => by subst h; exact sett_total hT hbl
        have HL128 := Lib.hid hL128
        clear hi hbl hQ hT hfl hsl hfi hsi hky hL20 hLq hsL hcsn hLn hL128 hz hqi
        go_wp2_with fail
        refine (HIS.out _ hC).mono ?_
        rintro e y1 ⟨rfl, hb⟩
        have hC := since_step hC hb
        clear hb
        go_wp2_with fail
        refine (HBL.out _ hC).mono ?_
        rintro e y2 ⟨rfl, hb⟩
        have hC := since_step hC hb
        clear hb
        go_wp2_with fail
        refine (HC3.out _ hC).mono ?_
        rintro e y3 ⟨hq, hb⟩
        have hC := since_step hC hb
        obtain ⟨A3, k3, rfl, s3⟩ := hq.of
        clear hb
        go_wp2_with fail
        refine (HT1.out A3 k3 _ s3).mono ?_
        rintro e y4 ⟨⟨sg, B4, n4, k4, rfl, _, D4⟩, hb⟩
        have hC := since_step hC hb
        have s3 := s3.below hb
        clear hb
        have l4 := D4.l128 in128_zero
        go_wp2_with fail
        refine (bcmp_any 0 0 sg false B4 none n4 k4 0 0 _ (by omega) (by omega) D4 (BigAt.zero _)).mono ?_
        rw [cmp_same]
        rintro e y5 ⟨rfl, hb⟩
        have hC := since_step hC hb
        have s3 := s3.below hb
        clear hb
        clear D4 l4
        go_wp2_with fail
        refine (HP1.out A3 k3 _ s3).mono ?_
        rintro e y6 ⟨rfl, hb⟩
        have hC := since_step hC hb
        clear hb
        clear s3
        go_wp2_with fail
        refine (HC5.out _ hC).mono ?_
        rintro e y7 ⟨hq, hb⟩
        have hC := since_step hC hb
        obtain ⟨A5, k5, rfl, s5⟩ := hq.of
        clear hb
        by_cases ht0 : tn = 0
        · have HTT := Lib.hid (HTT.out ht0)
          have hq0 : (tn != 0) = false := by rw [ht0]; rfl
          clear ht0
          have HTQ := HTQ.out A5 k5 _ s5
          rw [HTT.out] at HTQ
          have HTQ := Lib.hid HTQ
          clear HTT s5
          go_wp2_with fail
          refine (HTQ.out).mono ?_
          rintro e y8 ⟨⟨sg2, B8, n8, k8, rfl, _, D8⟩, hb⟩
          have hC := since_step hC hb
          clear hb
          go_wp2_with fail
          refine (HTL.out _ hC).mono ?_
          rintro e y9 ⟨⟨sg3, B9, n9, k9, rfl, _, D9⟩, hb⟩
          have hC := since_step hC hb
          have D8 := D8.below hb
          have l8 := D8.l128 HL128.out
          have l9 := D9.l128 HL128.out
          clear hb
          go_wp2_with fail
          refine (bcmp_any _ _ sg2 sg3 B8 B9 n8 k8 n9 k9 _ (by omega) (by omega) D8 D9).mono ?_
          rw [cmp_same]
          rintro e yA ⟨rfl, hb⟩
          have hC := since_step hC hb
          clear hb
          clear D8 D9 l8 l9
          go_wp2_with fail
          refine (HLV.out _).mono ?_
          rintro e yL ⟨rfl, hb⟩
          have hC := since_step hC hb
          clear hb
          go_wp2_with fail
          go_ret
          exact ⟨rfl, hB.trans (hC.mono hB.size)⟩
        · have q1 : (tn != 0) = true := by simpa using ht0
          clear ht0 s5 HTT HTQ
          go_wp2_with fail
          refine (HLV.out _).mono ?_
          rintro e yL ⟨rfl, hb⟩
          have hC := since_step hC hb
          clear hb
          go_wp2_with fail
          go_ret
          exact ⟨rfl, hB.trans (hC.mono hB.size)⟩
      · have hq0 := flowsR_errs hQ hn
        subst hq0
        have q1 : (qn != 0) = true := by simpa using hn
        clear hi hbl hQ hT hfl hsl hfi hsi hky hL20 hLq hsL hcsn hLn hn hL128
        go_wp2_with fail
        refine (HIS.out _ hC).mono ?_
        rintro e y1 ⟨rfl, hb⟩
        have hC := since_step hC hb
        clear hb
        go_wp2_with fail
        refine (HBL.out _ hC).mono ?_
        rintro e y2 ⟨rfl, hb⟩
        have hC := since_step hC hb
        clear hb
        go_wp2_with fail
        refine (HC3.out _ hC).mono ?_
        rintro e y3 ⟨hq, hb⟩
        have hC := since_step hC hb
        obtain ⟨A3, k3, rfl, s3⟩ := hq.of
        simp only [List.length_nil]
        clear hb
        go_wp2_with fail
        refine (HLV.out _).mono ?_
        rintro e yL ⟨rfl, hb⟩
        have hC := since_step hC hb
        clear hb
        go_wp2_with fail
        go_ret
        exact ⟨rfl, hB.trans (hC.mono hB.size)⟩
set_option maxHeartbeats 32000000 in
set_option maxRecDepth 100000 in
theorem walk_MarkBack (a0 : Option Addr) (n0 c0 : Nat) (a1 : Option Addr) (n1 c1 : Nat) (a2 : Option Addr) (n2 c2 : Nat) (w : World) (w0 : Rd w (.sl (.cat (.int .i64) (.cat (.int .i64) (.cat (.int .i64) (.cat (.int .i64) (.cat (.sl (.int .i64)) .nil)))))) [.slice a0 n0 c0]) (w1 : Rd w (.sl (.cat (.cat (.int .i64) (.cat (.int .i64) .nil)) (.cat (.sl (.cat (.int .i64) (.cat (.int .i64) .nil))) .nil))) [.slice a1 n1 c1]) (w2 : Rd w (.sl (.cat (.cat (.int .i64) (.cat (.int .i64) .nil)) (.cat (.int .i64) .nil))) [.slice a2 n2 c2]) :
    Calls Try.prog 5 #[.slice a0 n0 c0, .slice a1 n1 c1, .slice a2 n2 c2] w fun e w' => e = .returned (.bool true) ∧ Below w.heap.size w w' := by
  obtain ⟨l, rfl, _, _, hs0, hd0⟩ := rd_rowsP (f := Iq.cells) (fun r => rd_insrow) w0
  obtain ⟨lp, rfl, _, _, hp0, hd2⟩ := rd_rowsP (f := Po.cells) (fun r => rd_posk) w1
  obtain ⟨L, hL20, hLq, hsL, HF3⟩ := rd_fws w2
  clear w0 w1 w2
  have HI := Lib.hid (instsk_any a0 c0 l w hs0 hd0)
  have HF2 := Lib.hid (fun V (hV : Below w.heap.size w V) => few19k_any a1 c1 lp V (hp0.below hV) (fun g hg => (hd2 g hg).below hV))
  have HLV := Lib.hid (fun V => lives20_any V)
  clear hs0 hd0 hp0 hd2
  go_enter Try.func5, Try.ntmps5
  go_wp2_with fail
  refine HI.out.mono ?_
  rintro e z1 ⟨⟨R, is, A, c, rfl, hs, ht, hR, h9⟩, hB⟩
  clear HI
  go_wp2_with fail
  refine (HF2.out _ hB).mono ?_
  rintro e z3 ⟨⟨P, cs, PA, pc, rfl, hp, hpt, hcap, hPn, hgd, hky⟩, hb⟩
  have hB := since_step hB hb
  have hs := hs.below hb
  have ht := ht.below hb
  clear hb HF2 hcap
  have hsL := hsL.below hB
  go_wp2_with fail
  refine (HF3.out _ hB).mono ?_
  rintro e z4 ⟨rfl, hb⟩
  have hB := since_step hB hb
  have hs := hs.below hb
  have ht := ht.below hb
  have hp := hp.below hb
  have hpt := hpt.below hb
  have hsL := hsL.below hb
  clear hb HF3
  have hR9 : R.length ≤ 900000 := by omega
  have hcl9 : ∀ i ∈ is, i.mv.length ≤ 900000 := fun i hi => Nat.le_trans (h9 i hi).1 (by omega)
  have ho : OkT is := fun i hi => (h9 i hi).2
  have hP9 : P.length ≤ 900000 := by omega
  have hpl : ∀ g ∈ cs, g.L.length ≤ 1000 := fun g hg => Nat.le_trans (hgd.1 g hg) (by omega)
  have hpl9 : ∀ g ∈ cs, g.L.length ≤ 900000 := fun g hg => Nat.le_trans (hgd.1 g hg) (by omega)
  have hcsn : cs.length ≤ 10000 := by have := hpt.1; omega
  have hLn : L.length ≤ 10000 := by omega
  have HC5 := Lib.hid (fun V (h : Below z4.heap.size z4 V) => msettle_any A c R is PA pc P cs a2 c2 L V hR9 hcl9 ho hP9 hpl hgd.2 (hs.below h) (ht.below h) (hp.below h) (hpt.below h) hcsn hky hLn hLq (hsL.below h))
  have hsl := settR_len is cs L
  have hsi := settR_in (is := is) hLq hky
  obtain ⟨tn, tO, hT⟩ : ∃ n O, settR is cs L = (n, O) := ⟨_, _, rfl⟩
  rw [hT] at HC5 hsl hsi
  simp only at hsl hsi
  have hTO : tO.length ≤ 10000 := by have := hpt.1; omega
  have HC6 := Lib.hid (fun A2 k2 A3 k3 V (h : Below z4.heap.size z4 V) hs2 h3 => msettle_any A2 k2 (R.map swG) (is.map swI) PA pc P cs A3 k3 tO V (by rw [List.length_map]; exact hR9) (fun i hi => by
    obtain ⟨j, hj, rfl⟩ := List.mem_map.1 hi
    exact hcl9 j hj) (okT_sw ho) hP9 hpl hgd.2 hs2 (InTab.sw (ht.below h)) (hp.below h) (hpt.below h) hcsn hky hTO hsi h3)
  obtain ⟨vn, vO, hV⟩ : ∃ n O, settR (is.map swI) cs tO = (n, O) := ⟨_, _, rfl⟩
  rw [hV] at HC6
  have HBK : Hid (tn = 0 → vn = 0 → vO = L) := Lib.hid fun h1 h2 => by subst h1; subst h2; exact sett_back hT hV
  have HER : Hid (tn ≠ 0 → tO = []) := Lib.hid fun h => settR_errs hT h
  have HSA := Lib.hid (fun A2 k2 V (h : Below z4.heap.size z4 V) h2 => rpsame_any_self A2 a2 k2 c2 L V (by omega) h2 (hsL.below h))
  have HSR : Hid (∀ V, Below z4.heap.size z4 V → Sl V A (rc Iq.cells R)) := Lib.hid fun V h => hs.below h
  have hC := Below.refl z4.heap.size z4
  have hR10 := hR
  clear hs ht hp hpt hsL hR9 hcl9 ho hP9 hpl hpl9 hcsn hLn hR h9 hPn hgd hky hL20 hLq hsl hsi hTO hT hV
  go_wp2_with fail
  go_loopw [7, 8] (fun out iv wr => ∃ (k : Nat) (A2 : Option Addr) (k2 : Nat), k ≤ R.length ∧ iv = .int .i64 k ∧ out = .slice A2 k k2 ∧ wr.ownsRow z4.heap.size 54 5 (.slice A2 k k2) k (rc Iq.cells ((R.take k).map swG)) ∧ Below z4.heap.size z4 wr) (fun _ iv _ => R.length - (intOf iv).toNat)
  case atStart => exact ⟨0, none, 0, by omega, rfl, rfl, own_nil _ _ _, hC⟩
  case round =>
    obtain ⟨k, A2, k2, hk, rfl, rfl, hown, hB4⟩ := hrel
    by_cases hlt : k < R.length
    · have hlk : (k : Int) < (R.length : Int) := by omega
      have hge : (0 : Int) ≤ (k : Int) := by omega
      obtain ⟨b, o, rfl, hbw, hg⟩ := (HSR.out _ hB4).iq hlt
      have HST : Hid ((R.take (k + 1)).map swG = (R.take k).map swG ++ [swG R[k]]) := Lib.hid (by rw [take_snoc R k hlt, List.map_append]; rfl)
      have hsz := hB4.size
      clear hC
      generalize R[k] = v at *
      obtain ⟨vid, vm, vp, vx, vc, vcL, vcC⟩ := v
      obtain ⟨g0, g1, g2, g3, g4⟩ := hg
      simp only at g0 g1 g2 g3 g4
      have HST : Hid ((R.take (k + 1)).map swG = (R.take k).map swG ++ [⟨vid, vm, vx, vp, vc, vcL, vcC⟩]) := Lib.hid HST.out
      generalize (R.take k).map swG = X at *
      go_wp2_with (first
        | (at_builtin; refine wpList_app rfl (.tmp 36) (.tmp 38) rfl EIq rfl rfl ((hown.alloc _).alloc _) (m := 1) (news := [.int .i64 vid, .int .i64 vm, .int .i64 vx, .int .i64 vp, .slice vc vcL vcC]) rfl (Sl.new1 _ _ _ _) (Iq.one ⟨vid, vm, vx, vp, vc, vcL, vcC⟩) (by unfold maxLen; omega) (by omega) (by simp only [World.size_alloc]; omega) ?_; intro A3 c3 w3 hown3 hg3 hb3)
        | fail)
      go_roundw
      case rel =>
        refine ⟨k + 1, A3, c3, by omega, by go_num, rfl, ?_, (since_alloc (since_alloc hB4 _) _).trans hb3⟩
        rw [HST.out, rc_append]; simpa [rc, Iq.cells] using hown3
      case measure => simp [intOf]; omega
    · obtain rfl : k = R.length := by omega
      rw [List.take_length] at hown
      have hsB := Sl.of_own hown
      have hmn : (R.map swG).length = R.length := List.length_map _
      rw [hmn] at HC6
      clear hown hC hmn
      have hC := hB4
      clear hB4
      go_wp2_with fail
      refine (HC5.out _ hC).mono ?_
      rintro e y1 ⟨hq, hb⟩
      have hC := since_step hC hb
      obtain ⟨A5, k5, rfl, s5⟩ := hq.of
      have hsB := hsB.below hb
      clear hb
      by_cases ht0 : tn = 0
      · have hq0 : (tn != 0) = false := by rw [ht0]; rfl
        go_wp2_with fail
        refine (HC6.out A2 k2 A5 k5 _ hC hsB s5).mono ?_
        rintro e y2 ⟨hq, hb⟩
        have hC := since_step hC hb
        obtain ⟨A6, k6, rfl, s6⟩ := hq.of
        clear hb
        clear s5 hsB
        by_cases hv0 : vn = 0
        · have hv := HBK.out ht0 hv0
          subst hv
          have q1 : (vn != 0) = false := by rw [hv0]; rfl
          clear hv0 ht0
          go_wp2_with fail
          refine (HSA.out A6 k6 _ hC s6).mono ?_
          rintro e y3 ⟨rfl, hb⟩
          have hC := since_step hC hb
          clear hb
          clear s6
          go_wp2_with fail
          refine (HLV.out _).mono ?_
          rintro e yL ⟨rfl, hb⟩
          have hC := since_step hC hb
          clear hb
          go_wp2_with fail
          go_ret
          exact ⟨rfl, hB.trans (hC.mono hB.size)⟩
        · have q1 : (vn != 0) = true := by simpa using hv0
          clear hv0 ht0 s6 HBK
          go_wp2_with fail
          refine (HLV.out _).mono ?_
          rintro e yL ⟨rfl, hb⟩
          have hC := since_step hC hb
          clear hb
          go_wp2_with fail
          go_ret
          exact ⟨rfl, hB.trans (hC.mono hB.size)⟩
      · have hE := HER.out ht0
        subst hE
        have q1 : (tn != 0) = true := by simpa using ht0
        clear ht0 s5 hsB HBK
        simp only [List.length_nil]
        go_wp2_with fail
        refine (HLV.out _).mono ?_
        rintro e yL ⟨rfl, hb⟩
        have hC := since_step hC hb
        clear hb
        go_wp2_with fail
        go_ret
        exact ⟨rfl, hB.trans (hC.mono hB.size)⟩
end Go.Proofs.Ytahdmomadbbhoaa
end
