import Derived.Test.YtlbccpiadmcpjaaCv13
import Derived.Test.YtlbccpiadmcpjaaCv22
section
namespace Go.Proofs.Ytlbccpiadmcpjaa
open Go.ChangeShapes Go.WideShapes Go.ChangeAt Go.RowKit
set_option linter.unusedVariables false
set_option linter.unusedSimpArgs false

def BN (w : World) (g : Nat) (s : Bool) (A : Option Addr) (n c : Nat) (z : Int) : Prop := BB w g s A n c ∧ BigAt w s A n c z
theorem BN.below {w w' : World} {g : Nat} {s : Bool} {A : Option Addr} {n c : Nat} {z : Int} (h : BN w g s A n c z) (hb : Below w.heap.size w w') : BN w' g s A n c z := ⟨h.1.below hb, h.2.below hb⟩
theorem BN.new {w : World} {s : Bool} {A : Option Addr} {n c : Nat} {z : Int} (h : BigAt w s A n c z) (t : TypeId) : BN (w.alloc (.cells #[.bool s, .slice A n c] t)) w.heap.size s A n c z := ⟨BB.new _ _ _ _ _ _, h.alloc _⟩
theorem BN.put {w : World} {g B : Nat} {s s' : Bool} {A A' : Option Addr} {n n' c c' : Nat} {z' : Int} (h : BB w g s A n c) (hz : BigAt w s' A' n' c' z') (hf : Fr B A' n') (hg : g < B) : BN ((w.setCell ⟨g, 0, none⟩ (.bool s')).setCell ⟨g, 1, none⟩ (.slice A' n' c')) g s' A' n' c' z' :=
  ⟨h.set2 s' A' n' c', (hz.far (p := ⟨g, 0, none⟩) (fun b o hA hn => by have := hf b o hA hn; show b ≠ g; omega) _).far (p := ⟨g, 1, none⟩) (fun b o hA hn => by have := hf b o hA hn; show b ≠ g; omega) _⟩
theorem BN.far {w : World} {g : Nat} {s : Bool} {A : Option Addr} {n c : Nat} {z : Int} (h : BN w g s A n c z) {w0 : World} (h0 : BN w0 g s A n c z) (hb : Below w0.heap.size w0 w) {p : Addr} (hp : w0.heap.size ≤ p.block) (v : Value) : BN (w.setCell p v) g s A n c z := h0.below (Below.setCell hb hp v)
theorem inN_yes {z : Int} (h : In64 z) : decide (inN z 63) = true := by rw [decide_eq_true_eq, inN_63]; exact h
theorem inN_no {z : Int} (h : ¬ In64 z) : decide (inN z 63) = false := by rw [decide_eq_false_iff_not, inN_63]; exact h
theorem fit64 {z : Int} (h : In64 z) : fV z = z ∧ fE z = 0 := by unfold fV fE; rw [if_pos h, if_pos h]; exact ⟨rfl, rfl⟩
theorem far64 {z : Int} (h : ¬ In64 z) : fV z = 0 ∧ fE z = 7 := by unfold fV fE; rw [if_neg h, if_neg h]; exact ⟨rfl, rfl⟩
theorem sum_rng : ∀ l : List Int, All64 l → -((l.length : Int) * 9223372036854775808) ≤ l.sum ∧ l.sum ≤ (l.length : Int) * 9223372036854775808
  | [], _ => by simp
  | x :: l, h => by
    have ih := sum_rng l fun y hy => h y (List.mem_cons_of_mem _ hy)
    have hx := h x List.mem_cons_self
    unfold In64 at hx
    rw [List.sum_cons, List.length_cons]
    omega
theorem abs_mul_leC {a b A B : Int} (ha : -A ≤ a ∧ a ≤ A) (hb : -B ≤ b ∧ b ≤ B) : -(A * B) ≤ a * b ∧ a * b ≤ A * B := by
  have h1 : a.natAbs ≤ A.natAbs := by omega
  have h2 : b.natAbs ≤ B.natAbs := by omega
  have h3 := Nat.mul_le_mul h1 h2
  rw [← Int.natAbs_mul, ← Int.natAbs_mul] at h3
  have hA : 0 ≤ A := by omega
  have hB : 0 ≤ B := by omega
  have := Int.mul_nonneg hA hB
  omega
set_option maxHeartbeats 16000000 in
set_option maxRecDepth 100000 in
theorem rcov_count (A : Option Addr) (cap : Nat) (asl : List Ax) (LA : Option Addr) (lc : Nat) (l : List Lt) (cash : Int) (w : World) (ha : asl.length ≤ 100000) (hl : l.length ≤ 1000) (ho : OkM asl) (hp6 : ∀ g ∈ asl, In64 g.price) (hq6 : ∀ x ∈ l, In64 x.qty) (hc6 : In64 cash) (hs : Sl w A (rc Ax.cells asl)) (hls : Sl w LA (rc Lt.cells l)) :
    Calls Try.prog 15 #[.slice A asl.length cap, .slice LA l.length lc, .int .i64 cash, .bool true] w fun e w' => e = .returned (.tuple #[.int .i64 (covR true asl l cash).1, .int .i64 (covR true asl l cash).2]) ∧ Below w.heap.size w w' := by
  have HIS := Lib.hid (ris_any LA lc l w (by omega) hls)
  have HSA : Hid (∀ V, Below w.heap.size w V → Sl V A (rc Ax.cells asl)) := Lib.hid fun V h => hs.below h
  have HSL : Hid (∀ V, Below w.heap.size w V → Sl V LA (rc Lt.cells l)) := Lib.hid fun V h => hls.below h
  have HFD := Lib.hid (fun id V h => rfindm_any A cap asl id V (by omega) h)
  have HOF := Lib.hid (fun V => bof_any cash V hc6)
  clear hs hls
  obtain ⟨R, hR⟩ : ∃ R, covR true asl l cash = R := ⟨_, rfl⟩
  rw [hR]
  have HRR := Lib.hid hR
  clear hR
  cases hi : isLs l with
  | false =>
    have HR := Lib.hid (HRR.out.symm.trans (covR_form (b := true) (asl := asl) (cash := cash) hi))
    rw [hi] at HIS
    clear hi
    go_enter Try.func15, Try.ntmps15
    go_wp2_with fail
    refine HIS.out.mono ?_
    rintro e w1 ⟨rfl, hb⟩
    go_wp2_with fail
    go_ret2
    exact ⟨by rw [HR.out]; rfl, hb⟩
  | true =>
    rw [hi] at HIS
    have HOL : Hid (∀ k, (hk : k < l.length) → okL l[k] = true) := Lib.hid fun k hk => by
      unfold isLs at hi
      simp only [Bool.and_eq_true, List.all_eq_true] at hi
      exact hi.1.1 _ (List.getElem_mem hk)
    have HER := Lib.hid (fun k n (hk : k < l.length) hno hn he => HRR.out.symm.trans (covR_err (b := true) (asl := asl) (cash := cash) (k := k) (n := n) hi hk hno hn he))
    have HOK := Lib.hid (fun h => HRR.out.symm.trans (covR_ok (b := true) (asl := asl) (cash := cash) hi h))
    clear hi
    go_enter Try.func15, Try.ntmps15
    go_wp2_with fail
    refine HIS.out.mono ?_
    rintro e w1 ⟨rfl, hb⟩
    go_wp2_with fail
    refine (HOF.out _).mono ?_
    rintro e w2 ⟨⟨s0, A0, n0, c0, rfl, _, D0⟩, hb2⟩
    have hB2 := since_step hb hb2
    have N0 := BN.new D0 69
    have hB3 := since_alloc hB2 (.cells #[.bool s0, .slice A0 n0 c0] 69)
    have HG10 : Hid (w.heap.size ≤ w2.heap.size) := Lib.hid hB2.size
    clear hb hb2 hB2 D0
    go_upto_region 4 with fail
    generalize hWW : w2.alloc (.cells #[.bool s0, .slice A0 n0 c0] 69) = W at *
    generalize hGG : w2.heap.size = g10 at *
    clear hWW hGG
    go_wp2_with fail
    go_loopw [11] (fun iv wr => ∃ (k : Nat) (s8 : Bool) (A8 : Option Addr) (n8 c8 : Nat), k ≤ l.length ∧ iv = .int .i64 k ∧ (∀ j, (hj : j < l.length) → j < k → lotE asl l[j] = 0) ∧ All64 (lotsV true asl (l.take k)) ∧ BN wr g10 s8 A8 n8 c8 (cash + (lotsV true asl (l.take k)).sum) ∧ Below w.heap.size w wr) (fun iv _ => l.length - (intOf iv).toNat)
    case atStart => exact ⟨0, s0, A0, n0, c0, by omega, rfl, fun j hj h => absurd h (by omega), (fun x hx => by simp [lotsV] at hx), by simpa [lotsV] using N0, hB3⟩
    case round =>
      obtain ⟨k, s8, A8, n8, c8, hk, rfl, hno, hall, X10, hB⟩ := hrel
      clear N0 hB3
      have hll : (lotsV true asl (l.take k)).length ≤ 1000 := by unfold lotsV; rw [List.length_map, List.length_take]; omega
      have hrg := sum_rng _ hall
      by_cases hlt : k < l.length
      · have hlk : (k : Int) < (l.length : Int) := by omega
        have hge : (0 : Int) ≤ (k : Int) := by omega
        obtain ⟨b, o, rfl, hbw, hg⟩ := (HSL.out _ (Below.refl _ w)).lt hlt
        have hq := hq6 _ (List.getElem_mem hlt)
        have hx := HOL.out k hlt
        have HST := Lib.hid (lotsV_snoc true asl l k hlt)
        have HS128 : Hid (In128 (cash + (lotsV true asl (l.take k)).sum)) := Lib.hid (by unfold In64 at hc6; unfold In128; omega)
        have HZS : Hid (cash + (lotsV true asl (l.take (k + 1))).sum = cash + (lotsV true asl (l.take k)).sum + lotV true asl l[k]) := Lib.hid (by rw [HST.out, List.sum_append]; simp; omega)
        have HEK := Lib.hid (fun n hn he => HER.out k n hlt hno hn he)
        have HNX : Hid (lotE asl l[k] = 0 → ∀ j, (hj : j < l.length) → j < k + 1 → lotE asl l[j] = 0) := Lib.hid fun h j hj hjk => by
          rcases Nat.lt_or_ge j k with h' | h'
          · exact hno j hj h'
          · obtain rfl : j = k := by omega
            exact h
        have HAL := Lib.hid hall
        clear hno hall hll hrg
        have HPL : Hid (∀ V, Below w.heap.size w V → l[k].at V b (o + k * 3)) := Lib.hid fun V hV => Lt.at_keep hg fun i => hV.cell (p := ⟨b, i, none⟩) hbw
        clear hg
        generalize hzz : cash + (lotsV true asl (l.take k)).sum = zz at *
        clear hzz
        generalize l[k] = v at *
        have HF := Lib.hid (HFD.out v.ast _ (HSA.out _ hB))
        cases hh : hasM asl v.ast with
        | false =>
          have HR := Lib.hid (HEK.out 11 (lotE_none hh) (by decide))
          rw [hh] at HF
          clear hh HEK HNX HST HZS
          obtain ⟨xa, xt, xq⟩ := v
          have hg := HPL.out _ hB
          obtain ⟨g0, g1_, g2⟩ := hg
          simp only at g0 g1_ g2 HF
          generalize findM asl xa = f at *
          obtain ⟨fi, fp, fh⟩ := f
          unfold Ax.val at HF
          simp only at HF
          go_wp2_with fail
          refine HF.out.mono ?_
          rintro e u1 ⟨rfl, hb⟩
          have hB3 := since_step hB hb
          have hsz3 := hB3.size
          go_wp2_with fail
          go_ret2
          refine ⟨by rw [HR.out]; rfl, ?_⟩
          repeat' (first | with_reducible exact hB3 | with_reducible refine Below.setCell ?_ ?_ _ | with_reducible refine Below.alloc ?_ ?_ _)
          all_goals first | omega | (simp; done) | (simp; omega)
        | true =>
          have hok := findM_ok ho hh
          have hpr : In64 (findM asl v.ast).price := by have := hok.2.2.1; simp only at this; unfold In64; omega
          have hLV : lotV true asl v = v.qty * (findM asl v.ast).price * (10000 - (findM asl v.ast).hc) / 10000 := if_pos rfl
          have hLE := lotE_some hh
          have HL6 : Hid (In64 (v.qty * (findM asl v.ast).price) → In64 (lotV true asl v)) := Lib.hid fun h6 => by
            have h0 : lotE asl v = 0 := by rw [hLE]; exact (fit64 h6).2
            exact ((lot_count ho hx hh).2 h0).2
          have HZ128 : Hid (In128 (v.qty * (findM asl v.ast).price)) := Lib.hid (by
            have := abs_mul_leC (A := 9223372036854775808) (B := 9223372036854775808) (a := v.qty) (b := (findM asl v.ast).price) (by unfold In64 at hq; omega) (by unfold In64 at hpr; omega)
            unfold In128; omega)
          have HL128 : Hid (In64 (v.qty * (findM asl v.ast).price) → In128 (lotV true asl v)) := Lib.hid fun h6 => by have := HL6.out h6; unfold In64 at this; unfold In128; omega
          have HWO := fun V => rworth_any ⟨(findM asl v.ast).id, (findM asl v.ast).price, (findM asl v.ast).hc⟩ v.qty V hq hpr
          have HCO := fun V => rcount_any ⟨(findM asl v.ast).id, (findM asl v.ast).price, (findM asl v.ast).hc⟩ v.qty V hq hok
          rw [hLE] at HNX HEK
          rw [hLV] at HZS HST HL6 HL128
          rw [hh] at HF
          clear hh hpr hok hx hLV hLE
          obtain ⟨xa, xt, xq⟩ := v
          simp only at HF HWO HNX HEK HZS HST HL6 HL128 HZ128 hq HCO
          generalize findM asl xa = f at *
          obtain ⟨fi, fp, fh⟩ := f
          unfold Ax.val at HF
          unfold astV at HWO HCO
          simp only at HF HWO HNX HEK HZS HST HL6 HL128 HZ128 HCO
          generalize hzw : xq * fp = zw at *
          clear hzw
          generalize hlv : zw * (10000 - fh) / 10000 = lv at *
          clear hlv
          have HWO := Lib.hid HWO
          have HCO := Lib.hid HCO
          have HYE : Hid (In64 zw → ∀ j, (hj : j < l.length) → j < k + 1 → lotE asl l[j] = 0) := Lib.hid fun h6 => HNX.out (fit64 h6).2
          have HNE : Hid (¬ In64 zw → R = (0, 7)) := Lib.hid fun h6 => HEK.out 7 (far64 h6).2 (by decide)
          clear HNX HEK
          have hg := HPL.out _ hB
          obtain ⟨g0, g1_, g2⟩ := hg
          simp only at g0 g1_ g2
          go_wp2_with fail
          refine HF.out.mono ?_
          rintro e u1 ⟨rfl, hb⟩
          have hB3 := since_step hB hb
          have K9 := Bk.new u1 #[.int .i64 fi, .int .i64 fp, .int .i64 fh] 63
          have hB4 := since_alloc hB3 (.cells #[.int .i64 fi, .int .i64 fp, .int .i64 fh] 63)
          have X10 := (X10.below hb).below (since_alloc (Below.refl _ _) (.cells #[.int .i64 fi, .int .i64 fp, .int .i64 fh] 63))
          clear hb hB3 g0 g1_ g2
          go_upto_region 10 with fail
          generalize hYY : u1.alloc (.cells #[.int .i64 fi, .int .i64 fp, .int .i64 fh] 63) = Y at *
          generalize hGG : u1.heap.size = gy at *
          clear hYY hGG
          have HA3 : Hid (∀ V, Below Y.heap.size Y V → V.cell? ⟨gy, 0, none⟩ = some (.int .i64 fi) ∧ V.cell? ⟨gy, 1, none⟩ = some (.int .i64 fp) ∧ V.cell? ⟨gy, 2, none⟩ = some (.int .i64 fh)) := Lib.hid fun V h => ⟨(K9.below h).2 0, (K9.below h).2 1, (K9.below h).2 2⟩
          have HBY : Hid (∀ V, Below Y.heap.size Y V → Below w.heap.size w V) := Lib.hid fun V h => hB4.trans (h.mono hB4.size)
          have HQ2 : Hid (∀ V, Below Y.heap.size Y V → V.cell? ⟨b, o + k * 3 + 2, none⟩ = some (.int .i64 xq)) := Lib.hid fun V h => (HPL.out _ (HBY.out _ h)).2.2
          have H10 : Hid (∀ V, Below Y.heap.size Y V → BN V g10 s8 A8 n8 c8 zz) := Lib.hid fun V h => X10.below h
          clear X10 K9 hB4
          go_wp2_with fail
          refine wp_region_held_drew (S := (fun V => Below Y.heap.size Y V)) (by kernel_rfl) (by exact (Below.refl _ _).drew) (fun hHeld => ?_)
          generalize Y.drew = VE at *
          refine tkZ (i := 0) (oi := ⟨some 38, _, _, _, _, _⟩) (v := ?_) rfl (by kernel_rfl) (fun _ _ _ h => h) (Or.inl ⟨by rfl, ?_⟩) hHeld ?_
          rotate_left
          · (intro w hSw; obtain ⟨r0, r1, r2⟩ := HA3.out _ (hSw); have q2 := HQ2.out _ (hSw); go_simp <;> with_reducible rfl)
          try simp only [pqZ]
          refine tkZ (i := 1) (oi := ⟨some 39, _, _, _, _, _⟩) (v := ?_) rfl (by kernel_rfl) (fun _ _ _ h => h) (Or.inl ⟨by rfl, ?_⟩) hHeld ?_
          rotate_left
          · (intro w hSw; clear hSw; go_simp <;> with_reducible rfl)
          try simp only [pqZ]
          refine tkZ (i := 2) (oi := ⟨some 40, _, _, _, _, _⟩) (v := ?_) rfl (by kernel_rfl) (fun _ _ _ h => h) (Or.inl ⟨by rfl, ?_⟩) hHeld ?_
          rotate_left
          · (intro w hSw; clear hSw; go_simp <;> with_reducible rfl)
          try simp only [pqZ]
          refine tkZ (i := 3) (oi := ⟨some 41, _, _, _, _, _⟩) (v := ?_) rfl (by kernel_rfl) (fun _ _ _ h => h) (Or.inl ⟨by rfl, ?_⟩) hHeld ?_
          rotate_left
          · (intro w hSw; clear hSw; go_simp <;> with_reducible rfl)
          try simp only [pqZ]
          refine tkZ (i := 4) (oi := ⟨some 42, _, _, _, _, _⟩) (v := ?_) rfl (by kernel_rfl) (fun _ _ _ h => h) (Or.inl ⟨by rfl, ?_⟩) hHeld ?_
          rotate_left
          · (intro w hSw; clear hSw; go_simp <;> with_reducible rfl)
          try simp only [pqZ]
          refine tkZ (i := 5) (oi := ⟨some 43, _, _, _, _, _⟩) (v := ?_) rfl (by kernel_rfl) (fun _ _ _ h => h) (Or.inl ⟨by rfl, ?_⟩) hHeld ?_
          rotate_left
          · (intro w hSw; obtain ⟨r0, r1, r2⟩ := HA3.out _ (hSw); have q2 := HQ2.out _ (hSw); go_simp <;> with_reducible rfl)
          try simp only [pqZ]
          refine wpAnyH_ready (rs := [6, 7]) (by kernel_rfl) (by simp) ?_
          refine AllReadyH.cons (o := ⟨some 44, _, _, _, _, _⟩) rfl (fun K hK => ?_) (AllReadyH.cons (o := ⟨some 14, _, _, _, _, _⟩) rfl (fun K hK => ?_) AllReadyH.nil)
          · go_simp
            refine (HWO.out _).mono ?_
            rintro e x1 ⟨⟨s4, A4, n4, c4, rfl, hf4, D4⟩, hk1⟩
            have hKeep := since_step hHeld hk1
            have hk1' := hk1
            go_wp2_with fail
            refine hK.out _ _ (by (try dsimp only); exact hKeep) (fun hHeld => ?_)
            clear hK K hKeep
            try simp only [pqZ]
            refine wpAnyH_ready (rs := [7]) (by kernel_rfl) (by simp) ?_
            refine AllReadyH.cons (o := ⟨some 14, _, _, _, _, _⟩) rfl (fun K hK => ?_) AllReadyH.nil
            have hHd := hHeld
            obtain ⟨r0, r1, r2⟩ := HA3.out _ (hHd); have q2 := HQ2.out _ (hHd)
            have hHp := hHeld
            have X := BB.new x1 false none 0 0 69
            have hKeep := since_alloc hHeld (.cells #[.bool false, .slice none 0 0] 69)
            go_simp
            refine hK.out _ _ (by (try dsimp only); exact hKeep) (fun hHeld => ?_)
            clear hK K hKeep
            try simp only [pqZ]
            refine wpAnyH_ready (rs := [8]) (by kernel_rfl) (by simp) ?_
            refine AllReadyH.cons (o := ⟨none, _, _, _, _, _⟩) rfl (fun K hK => ?_) AllReadyH.nil
            have hHd := hHeld
            obtain ⟨r0, r1, r2⟩ := HA3.out _ (hHd); have q2 := HQ2.out _ (hHd)
            obtain ⟨y0, y1, y2, y3, y4⟩ := id X
            have E4 := BN.new D4 69
            have hKeep := since_alloc hHp (.cells #[.bool s4, .slice A4 n4 c4] 69)
            skip
            go_simp
            refine hK.out _ _ (by (try dsimp only); exact hKeep) (fun hHeld => ?_)
            clear hK K hKeep
            try simp only [pqZ]
            refine wpAnyH_done (by kernel_rfl) ?_ _
            have hUW := since_alloc (Below.refl x1.heap.size x1) (.cells #[.bool s4, .slice A4 n4 c4] 69)
            have hYU := hHp
            generalize hFW : (x1.alloc (.cells #[.bool s4, .slice A4 n4 c4] 69)) = FW at *
            generalize hUU : x1 = U at *
            clear hFW hUU
            have B10 := H10.out _ hYU
            have g10l := B10.1.1
            have hBU := HBY.out _ hYU
            have HA3 : Hid (∀ V, Below U.heap.size U V → V.cell? ⟨gy, 0, none⟩ = some (.int .i64 fi) ∧ V.cell? ⟨gy, 1, none⟩ = some (.int .i64 fp) ∧ V.cell? ⟨gy, 2, none⟩ = some (.int .i64 fh)) := Lib.hid fun V h => HA3.out _ (hYU.trans (h.mono hYU.size))
            have HQ2 : Hid (∀ V, Below U.heap.size U V → V.cell? ⟨b, o + k * 3 + 2, none⟩ = some (.int .i64 xq)) := Lib.hid fun V h => HQ2.out _ (hYU.trans (h.mono hYU.size))
            have H10 : Hid (∀ V, Below U.heap.size U V → BN V g10 s8 A8 n8 c8 zz) := Lib.hid fun V h => B10.below h
            clear hHeld hHp HBY hYU
            try clear hk1'
            try clear X y0 y1 y2 y3 y4
            try clear hf4
            have L4 := E4.2.l128 HZ128.out
            obtain ⟨y0, y1, y2, y3, y4⟩ := id E4.1
            by_cases h6 : In64 zw
            · have HFI := Lib.hid (fun s A n c V (h : n ≤ 100000) hx => bfits_any zw s A n c V h hx)
              rw [inN_yes h6] at HFI
              have HNO := Lib.hid (HYE.out h6)
              have hl6 := HL6.out h6
              have HL128 := Lib.hid (HL128.out h6)
              have HAN : Hid (All64 (lotsV true asl (l.take k) ++ [lv])) := Lib.hid fun x hx => by
                rcases List.mem_append.1 hx with hx | hx
                · exact HAL.out x hx
                · rw [List.mem_singleton.1 hx]; exact hl6
              clear HYE HNE h6 HL6
              go_wp2_with fail
              refine (HFI.out _ _ _ _ _ (by omega) E4.2).mono ?_
              rintro e u2 ⟨rfl, hb⟩
              have hUW := since_step hUW hb
              have E4 := E4.below hb
              clear hb y0 y1 y2 y3 y4 HFI
              go_upto_region 14 with fail
              have E4 := E4.below (Below.refl _ u2).drew
              have hgE : U.heap.size < u2.drew.heap.size := E4.1.1
              go_wp2_with fail
              refine wp_region_held_drew (S := (fun V => Below U.heap.size U V)) (by kernel_rfl) (by exact hUW.drew) (fun hHeld => ?_)
              refine tkZ (i := 0) (oi := ⟨some 49, _, _, _, _, _⟩) (v := ?_) rfl (by kernel_rfl) (fun _ _ _ h => h) (Or.inl ⟨by rfl, ?_⟩) hHeld ?_
              rotate_left
              · (intro w hSw; obtain ⟨r0, r1, r2⟩ := HA3.out _ (hSw); have q2 := HQ2.out _ (hSw); go_simp <;> with_reducible rfl)
              try simp only [pqZ]
              refine tkZ (i := 1) (oi := ⟨some 50, _, _, _, _, _⟩) (v := ?_) rfl (by kernel_rfl) (fun _ _ _ h => h) (Or.inl ⟨by rfl, ?_⟩) hHeld ?_
              rotate_left
              · (intro w hSw; clear hSw; go_simp <;> with_reducible rfl)
              try simp only [pqZ]
              refine tkZ (i := 2) (oi := ⟨some 51, _, _, _, _, _⟩) (v := ?_) rfl (by kernel_rfl) (fun _ _ _ h => h) (Or.inl ⟨by rfl, ?_⟩) hHeld ?_
              rotate_left
              · (intro w hSw; clear hSw; go_simp <;> with_reducible rfl)
              try simp only [pqZ]
              refine tkZ (i := 3) (oi := ⟨some 52, _, _, _, _, _⟩) (v := ?_) rfl (by kernel_rfl) (fun _ _ _ h => h) (Or.inl ⟨by rfl, ?_⟩) hHeld ?_
              rotate_left
              · (intro w hSw; clear hSw; go_simp <;> with_reducible rfl)
              try simp only [pqZ]
              refine tkZ (i := 4) (oi := ⟨some 53, _, _, _, _, _⟩) (v := ?_) rfl (by kernel_rfl) (fun _ _ _ h => h) (Or.inl ⟨by rfl, ?_⟩) hHeld ?_
              rotate_left
              · (intro w hSw; clear hSw; go_simp <;> with_reducible rfl)
              try simp only [pqZ]
              refine tkZ (i := 5) (oi := ⟨some 54, _, _, _, _, _⟩) (v := ?_) rfl (by kernel_rfl) (fun _ _ _ h => h) (Or.inl ⟨by rfl, ?_⟩) hHeld ?_
              rotate_left
              · (intro w hSw; obtain ⟨r0, r1, r2⟩ := HA3.out _ (hSw); have q2 := HQ2.out _ (hSw); go_simp <;> with_reducible rfl)
              try simp only [pqZ]
              refine wpAnyH_ready (rs := [6]) (by kernel_rfl) (by simp) ?_
              refine AllReadyH.cons (o := ⟨some 55, _, _, _, _, _⟩) rfl (fun K hK => ?_) AllReadyH.nil
              go_simp
              refine (HCO.out _).mono ?_
              rintro e v1 ⟨⟨s5, A5, n5, c5, rfl, hf5, D5⟩, hk2⟩
              have hKeep := since_step hHeld hk2
              have E4 := E4.below hk2
              have hgl5 := E4.1.1
              go_wp2_with fail
              refine hK.out _ _ (by (try dsimp only); exact hKeep) (fun hHeld => ?_)
              clear hK K hKeep
              try simp only [pqZ]
              refine wpAnyH_ready (rs := [7]) (by kernel_rfl) (by simp) ?_
              refine AllReadyH.cons (o := ⟨none, _, _, _, _, _⟩) rfl (fun K hK => ?_) AllReadyH.nil
              have hHd := hHeld
              obtain ⟨r0, r1, r2⟩ := HA3.out _ (hHd); have q2 := HQ2.out _ (hHd)
              obtain ⟨y0, y1, y2, y3, y4⟩ := id E4.1
              have E5 := BN.put E4.1 D5 hf5 (g := U.heap.size) hgE
              have hKeep := Below.setCell (Below.setCell hHeld (p := ⟨U.heap.size, 0, none⟩) (Nat.le_refl _) (.bool s5)) (p := ⟨U.heap.size, 1, none⟩) (Nat.le_refl _) (.slice A5 n5 c5)
              skip
              go_simp
              refine hK.out _ _ (by (try dsimp only); exact hKeep) (fun hHeld => ?_)
              clear hK K hKeep
              try simp only [pqZ]
              refine wpAnyH_done (by kernel_rfl) ?_ _
              generalize hFW : ((v1.setCell ⟨U.heap.size, 0, none⟩ (.bool s5)).setCell ⟨U.heap.size, 1, none⟩ (.slice A5 n5 c5)) = FW2 at *
              clear hFW
              have hUW := hHeld
              clear hHeld
              have E4 := E5
              have L5 := E4.2.l128 HL128.out
              have B11 := H10.out _ hUW
              have L8 := B11.2.l128 HS128.out
              obtain ⟨y0, y1, y2, y3, y4⟩ := id E4.1
              obtain ⟨t0, t1, t2, t3, t4⟩ := id B11.1
              have hcs := @cell_set
              go_wp2_with fail
              refine (badd' (by omega) (by omega) B11.2 E4.2).mono ?_
              rintro e u3 ⟨⟨s6, A6, n6, c6, rfl, hf6, D6⟩, hb⟩
              have hg10c : g10 < FW2.heap.size := t0
              have hUW3 := since_step hUW hb
              have B12 := B11.below hb
              obtain ⟨t0_, t1_, t2_, t3_, t4_⟩ := id B12.1
              have hB9 := hBU.trans (hUW3.mono hBU.size)
              have N10 := BN.put B12.1 D6 hf6 (g := g10) hg10c
              have hBn := Below.setCell (Below.setCell hB9 (p := ⟨g10, 0, none⟩) HG10.out (.bool s6)) (p := ⟨g10, 1, none⟩) HG10.out (.slice A6 n6 c6)
              clear y0 y1 y2 y3 y4 t0 t1 t2 t3 t4 hb
              go_wp2_with fail
              go_roundw
              case rel => exact ⟨k + 1, s6, A6, n6, c6, by omega, by go_num, HNO.out, by rw [HST.out]; exact HAN.out, by rw [HZS.out]; exact N10, hBn⟩
              case measure => simp [intOf]; omega
            · have HFI := Lib.hid (fun s A n c V (h : n ≤ 100000) hx => bfits_any zw s A n c V h hx)
              rw [inN_no h6] at HFI
              have HR := Lib.hid (HNE.out h6)
              clear HYE HNE h6 HL6 HAL
              go_wp2_with fail
              refine (HFI.out _ _ _ _ _ (by omega) E4.2).mono ?_
              rintro e u2 ⟨rfl, hb⟩
              have hUW := since_step hUW hb
              clear hb y0 y1 y2 y3 y4 HFI E4
              go_wp2_with fail
              go_ret2
              exact ⟨by rw [HR.out]; rfl, hBU.trans (hUW.mono hBU.size)⟩
          · have hHd := hHeld
            obtain ⟨r0, r1, r2⟩ := HA3.out _ (hHd); have q2 := HQ2.out _ (hHd)
            have hHp := hHeld
            have X := BB.new VE false none 0 0 69
            have hKeep := since_alloc hHeld (.cells #[.bool false, .slice none 0 0] 69)
            go_simp
            refine hK.out _ _ (by (try dsimp only); exact hKeep) (fun hHeld => ?_)
            clear hK K hKeep
            try simp only [pqZ]
            refine wpAnyH_ready (rs := [6]) (by kernel_rfl) (by simp) ?_
            refine AllReadyH.cons (o := ⟨some 44, _, _, _, _, _⟩) rfl (fun K hK => ?_) AllReadyH.nil
            go_simp
            refine (HWO.out _).mono ?_
            rintro e x1 ⟨⟨s4, A4, n4, c4, rfl, hf4, D4⟩, hk1⟩
            have hKeep := since_step hHeld hk1
            have X := X.below hk1
            have hgl := X.1
            have hk1' := hk1
            go_wp2_with fail
            refine hK.out _ _ (by (try dsimp only); exact hKeep) (fun hHeld => ?_)
            clear hK K hKeep
            try simp only [pqZ]
            refine wpAnyH_ready (rs := [8]) (by kernel_rfl) (by simp) ?_
            refine AllReadyH.cons (o := ⟨none, _, _, _, _, _⟩) rfl (fun K hK => ?_) AllReadyH.nil
            have hHd := hHeld
            obtain ⟨r0, r1, r2⟩ := HA3.out _ (hHd); have q2 := HQ2.out _ (hHd)
            obtain ⟨y0, y1, y2, y3, y4⟩ := id X
            have hY4 : Y.heap.size ≤ VE.heap.size := hHp.size
            have E4 := BN.put X D4 hf4 (g := VE.heap.size) (by have := World.size_alloc VE (.cells #[.bool false, .slice none 0 0] 69); omega)
            have hKeep := Below.setCell (Below.setCell hHeld (p := ⟨VE.heap.size, 0, none⟩) hY4 (.bool s4)) (p := ⟨VE.heap.size, 1, none⟩) hY4 (.slice A4 n4 c4)
            skip
            go_simp
            refine hK.out _ _ (by (try dsimp only); exact hKeep) (fun hHeld => ?_)
            clear hK K hKeep
            try simp only [pqZ]
            refine wpAnyH_done (by kernel_rfl) ?_ _
            have hUW := Below.setCell (Below.setCell (since_step (since_alloc (Below.refl VE.heap.size VE) (.cells #[.bool false, .slice none 0 0] 69)) hk1') (p := ⟨VE.heap.size, 0, none⟩) (Nat.le_refl _) (.bool s4)) (p := ⟨VE.heap.size, 1, none⟩) (Nat.le_refl _) (.slice A4 n4 c4)
            have hYU := hHp
            generalize hFW : ((x1.setCell ⟨VE.heap.size, 0, none⟩ (.bool s4)).setCell ⟨VE.heap.size, 1, none⟩ (.slice A4 n4 c4)) = FW at *
            generalize hUU : VE = U at *
            clear hFW hUU
            have B10 := H10.out _ hYU
            have g10l := B10.1.1
            have hBU := HBY.out _ hYU
            have HA3 : Hid (∀ V, Below U.heap.size U V → V.cell? ⟨gy, 0, none⟩ = some (.int .i64 fi) ∧ V.cell? ⟨gy, 1, none⟩ = some (.int .i64 fp) ∧ V.cell? ⟨gy, 2, none⟩ = some (.int .i64 fh)) := Lib.hid fun V h => HA3.out _ (hYU.trans (h.mono hYU.size))
            have HQ2 : Hid (∀ V, Below U.heap.size U V → V.cell? ⟨b, o + k * 3 + 2, none⟩ = some (.int .i64 xq)) := Lib.hid fun V h => HQ2.out _ (hYU.trans (h.mono hYU.size))
            have H10 : Hid (∀ V, Below U.heap.size U V → BN V g10 s8 A8 n8 c8 zz) := Lib.hid fun V h => B10.below h
            clear hHeld hHp HBY hYU
            try clear hk1'
            try clear X y0 y1 y2 y3 y4
            try clear hf4
            have L4 := E4.2.l128 HZ128.out
            obtain ⟨y0, y1, y2, y3, y4⟩ := id E4.1
            by_cases h6 : In64 zw
            · have HFI := Lib.hid (fun s A n c V (h : n ≤ 100000) hx => bfits_any zw s A n c V h hx)
              rw [inN_yes h6] at HFI
              have HNO := Lib.hid (HYE.out h6)
              have hl6 := HL6.out h6
              have HL128 := Lib.hid (HL128.out h6)
              have HAN : Hid (All64 (lotsV true asl (l.take k) ++ [lv])) := Lib.hid fun x hx => by
                rcases List.mem_append.1 hx with hx | hx
                · exact HAL.out x hx
                · rw [List.mem_singleton.1 hx]; exact hl6
              clear HYE HNE h6 HL6
              go_wp2_with fail
              refine (HFI.out _ _ _ _ _ (by omega) E4.2).mono ?_
              rintro e u2 ⟨rfl, hb⟩
              have hUW := since_step hUW hb
              have E4 := E4.below hb
              clear hb y0 y1 y2 y3 y4 HFI
              go_upto_region 14 with fail
              have E4 := E4.below (Below.refl _ u2).drew
              have hgE : U.heap.size < u2.drew.heap.size := E4.1.1
              go_wp2_with fail
              refine wp_region_held_drew (S := (fun V => Below U.heap.size U V)) (by kernel_rfl) (by exact hUW.drew) (fun hHeld => ?_)
              refine tkZ (i := 0) (oi := ⟨some 49, _, _, _, _, _⟩) (v := ?_) rfl (by kernel_rfl) (fun _ _ _ h => h) (Or.inl ⟨by rfl, ?_⟩) hHeld ?_
              rotate_left
              · (intro w hSw; obtain ⟨r0, r1, r2⟩ := HA3.out _ (hSw); have q2 := HQ2.out _ (hSw); go_simp <;> with_reducible rfl)
              try simp only [pqZ]
              refine tkZ (i := 1) (oi := ⟨some 50, _, _, _, _, _⟩) (v := ?_) rfl (by kernel_rfl) (fun _ _ _ h => h) (Or.inl ⟨by rfl, ?_⟩) hHeld ?_
              rotate_left
              · (intro w hSw; clear hSw; go_simp <;> with_reducible rfl)
              try simp only [pqZ]
              refine tkZ (i := 2) (oi := ⟨some 51, _, _, _, _, _⟩) (v := ?_) rfl (by kernel_rfl) (fun _ _ _ h => h) (Or.inl ⟨by rfl, ?_⟩) hHeld ?_
              rotate_left
              · (intro w hSw; clear hSw; go_simp <;> with_reducible rfl)
              try simp only [pqZ]
              refine tkZ (i := 3) (oi := ⟨some 52, _, _, _, _, _⟩) (v := ?_) rfl (by kernel_rfl) (fun _ _ _ h => h) (Or.inl ⟨by rfl, ?_⟩) hHeld ?_
              rotate_left
              · (intro w hSw; clear hSw; go_simp <;> with_reducible rfl)
              try simp only [pqZ]
              refine tkZ (i := 4) (oi := ⟨some 53, _, _, _, _, _⟩) (v := ?_) rfl (by kernel_rfl) (fun _ _ _ h => h) (Or.inl ⟨by rfl, ?_⟩) hHeld ?_
              rotate_left
              · (intro w hSw; clear hSw; go_simp <;> with_reducible rfl)
              try simp only [pqZ]
              refine tkZ (i := 5) (oi := ⟨some 54, _, _, _, _, _⟩) (v := ?_) rfl (by kernel_rfl) (fun _ _ _ h => h) (Or.inl ⟨by rfl, ?_⟩) hHeld ?_
              rotate_left
              · (intro w hSw; obtain ⟨r0, r1, r2⟩ := HA3.out _ (hSw); have q2 := HQ2.out _ (hSw); go_simp <;> with_reducible rfl)
              try simp only [pqZ]
              refine wpAnyH_ready (rs := [6]) (by kernel_rfl) (by simp) ?_
              refine AllReadyH.cons (o := ⟨some 55, _, _, _, _, _⟩) rfl (fun K hK => ?_) AllReadyH.nil
              go_simp
              refine (HCO.out _).mono ?_
              rintro e v1 ⟨⟨s5, A5, n5, c5, rfl, hf5, D5⟩, hk2⟩
              have hKeep := since_step hHeld hk2
              have E4 := E4.below hk2
              have hgl5 := E4.1.1
              go_wp2_with fail
              refine hK.out _ _ (by (try dsimp only); exact hKeep) (fun hHeld => ?_)
              clear hK K hKeep
              try simp only [pqZ]
              refine wpAnyH_ready (rs := [7]) (by kernel_rfl) (by simp) ?_
              refine AllReadyH.cons (o := ⟨none, _, _, _, _, _⟩) rfl (fun K hK => ?_) AllReadyH.nil
              have hHd := hHeld
              obtain ⟨r0, r1, r2⟩ := HA3.out _ (hHd); have q2 := HQ2.out _ (hHd)
              obtain ⟨y0, y1, y2, y3, y4⟩ := id E4.1
              have E5 := BN.put E4.1 D5 hf5 (g := U.heap.size) hgE
              have hKeep := Below.setCell (Below.setCell hHeld (p := ⟨U.heap.size, 0, none⟩) (Nat.le_refl _) (.bool s5)) (p := ⟨U.heap.size, 1, none⟩) (Nat.le_refl _) (.slice A5 n5 c5)
              skip
              go_simp
              refine hK.out _ _ (by (try dsimp only); exact hKeep) (fun hHeld => ?_)
              clear hK K hKeep
              try simp only [pqZ]
              refine wpAnyH_done (by kernel_rfl) ?_ _
              generalize hFW : ((v1.setCell ⟨U.heap.size, 0, none⟩ (.bool s5)).setCell ⟨U.heap.size, 1, none⟩ (.slice A5 n5 c5)) = FW2 at *
              clear hFW
              have hUW := hHeld
              clear hHeld
              have E4 := E5
              have L5 := E4.2.l128 HL128.out
              have B11 := H10.out _ hUW
              have L8 := B11.2.l128 HS128.out
              obtain ⟨y0, y1, y2, y3, y4⟩ := id E4.1
              obtain ⟨t0, t1, t2, t3, t4⟩ := id B11.1
              have hcs := @cell_set
              go_wp2_with fail
              refine (badd' (by omega) (by omega) B11.2 E4.2).mono ?_
              rintro e u3 ⟨⟨s6, A6, n6, c6, rfl, hf6, D6⟩, hb⟩
              have hg10c : g10 < FW2.heap.size := t0
              have hUW3 := since_step hUW hb
              have B12 := B11.below hb
              obtain ⟨t0_, t1_, t2_, t3_, t4_⟩ := id B12.1
              have hB9 := hBU.trans (hUW3.mono hBU.size)
              have N10 := BN.put B12.1 D6 hf6 (g := g10) hg10c
              have hBn := Below.setCell (Below.setCell hB9 (p := ⟨g10, 0, none⟩) HG10.out (.bool s6)) (p := ⟨g10, 1, none⟩) HG10.out (.slice A6 n6 c6)
              clear y0 y1 y2 y3 y4 t0 t1 t2 t3 t4 hb
              go_wp2_with fail
              go_roundw
              case rel => exact ⟨k + 1, s6, A6, n6, c6, by omega, by go_num, HNO.out, by rw [HST.out]; exact HAN.out, by rw [HZS.out]; exact N10, hBn⟩
              case measure => simp [intOf]; omega
            · have HFI := Lib.hid (fun s A n c V (h : n ≤ 100000) hx => bfits_any zw s A n c V h hx)
              rw [inN_no h6] at HFI
              have HR := Lib.hid (HNE.out h6)
              clear HYE HNE h6 HL6 HAL
              go_wp2_with fail
              refine (HFI.out _ _ _ _ _ (by omega) E4.2).mono ?_
              rintro e u2 ⟨rfl, hb⟩
              have hUW := since_step hUW hb
              clear hb y0 y1 y2 y3 y4 HFI E4
              go_wp2_with fail
              go_ret2
              exact ⟨by rw [HR.out]; rfl, hBU.trans (hUW.mono hBU.size)⟩
      · obtain rfl : k = l.length := by omega
        rw [List.take_length] at X10 hrg hall hll
        have HR := Lib.hid (HOK.out fun j hj => hno j hj hj)
        have h128 : In128 (cash + (lotsV true asl l).sum) := by unfold In64 at hc6; unfold In128; omega
        clear hno hrg hall hll
        generalize cash + (lotsV true asl l).sum = zz at *
        have L8 := X10.2.l128 h128
        obtain ⟨t0, t1, t2, t3, t4⟩ := id X10.1
        by_cases h6 : In64 zz
        · have HFI := Lib.hid (fun s A n c V (h : n ≤ 100000) hx => bfits_any zz s A n c V h hx)
          rw [inN_yes h6] at HFI
          have HFF := Lib.hid (fit64 h6)
          have HIN := Lib.hid (fun s A n c V (h : BigAt V s A n c zz) => rint_any zz h6 s A n c V h)
          clear h6 h128
          go_wp2_with fail
          refine (HFI.out _ _ _ _ _ (by omega) X10.2).mono ?_
          rintro e u1 ⟨rfl, hb⟩
          have hB3 := since_step hB hb
          have X10 := X10.below hb
          clear t0 t1 t2 t3 t4 hb
          obtain ⟨t0, t1, t2, t3, t4⟩ := id X10.1
          go_wp2_with fail
          refine (HIN.out _ _ _ _ _ X10.2).mono ?_
          rintro e u2 ⟨rfl, hb⟩
          have hB4 := since_step hB3 hb
          go_wp2_with fail
          go_ret2
          exact ⟨by rw [HR.out, HFF.out.1, HFF.out.2]; rfl, hB4⟩
        · have HFI := Lib.hid (fun s A n c V (h : n ≤ 100000) hx => bfits_any zz s A n c V h hx)
          rw [inN_no h6] at HFI
          have HFF := Lib.hid (far64 h6)
          clear h6 h128
          go_wp2_with fail
          refine (HFI.out _ _ _ _ _ (by omega) X10.2).mono ?_
          rintro e u1 ⟨rfl, hb⟩
          have hB3 := since_step hB hb
          go_wp2_with fail
          go_ret2
          exact ⟨by rw [HR.out, HFF.out.1, HFF.out.2]; rfl, hB3⟩
set_option maxHeartbeats 16000000 in
set_option maxRecDepth 100000 in
theorem rcov_worth (A : Option Addr) (cap : Nat) (asl : List Ax) (LA : Option Addr) (lc : Nat) (l : List Lt) (cash : Int) (w : World) (ha : asl.length ≤ 100000) (hl : l.length ≤ 1000) (ho : OkM asl) (hp6 : ∀ g ∈ asl, In64 g.price) (hq6 : ∀ x ∈ l, In64 x.qty) (hc6 : In64 cash) (hs : Sl w A (rc Ax.cells asl)) (hls : Sl w LA (rc Lt.cells l)) :
    Calls Try.prog 15 #[.slice A asl.length cap, .slice LA l.length lc, .int .i64 cash, .bool false] w fun e w' => e = .returned (.tuple #[.int .i64 (covR false asl l cash).1, .int .i64 (covR false asl l cash).2]) ∧ Below w.heap.size w w' := by
  have HIS := Lib.hid (ris_any LA lc l w (by omega) hls)
  have HSA : Hid (∀ V, Below w.heap.size w V → Sl V A (rc Ax.cells asl)) := Lib.hid fun V h => hs.below h
  have HSL : Hid (∀ V, Below w.heap.size w V → Sl V LA (rc Lt.cells l)) := Lib.hid fun V h => hls.below h
  have HFD := Lib.hid (fun id V h => rfindm_any A cap asl id V (by omega) h)
  have HOF := Lib.hid (fun V => bof_any cash V hc6)
  clear hs hls
  obtain ⟨R, hR⟩ : ∃ R, covR false asl l cash = R := ⟨_, rfl⟩
  rw [hR]
  have HRR := Lib.hid hR
  clear hR
  cases hi : isLs l with
  | false =>
    have HR := Lib.hid (HRR.out.symm.trans (covR_form (b := false) (asl := asl) (cash := cash) hi))
    rw [hi] at HIS
    clear hi
    go_enter Try.func15, Try.ntmps15
    go_wp2_with fail
    refine HIS.out.mono ?_
    rintro e w1 ⟨rfl, hb⟩
    go_wp2_with fail
    go_ret2
    exact ⟨by rw [HR.out]; rfl, hb⟩
  | true =>
    rw [hi] at HIS
    have HOL : Hid (∀ k, (hk : k < l.length) → okL l[k] = true) := Lib.hid fun k hk => by
      unfold isLs at hi
      simp only [Bool.and_eq_true, List.all_eq_true] at hi
      exact hi.1.1 _ (List.getElem_mem hk)
    have HER := Lib.hid (fun k n (hk : k < l.length) hno hn he => HRR.out.symm.trans (covR_err (b := false) (asl := asl) (cash := cash) (k := k) (n := n) hi hk hno hn he))
    have HOK := Lib.hid (fun h => HRR.out.symm.trans (covR_ok (b := false) (asl := asl) (cash := cash) hi h))
    clear hi
    go_enter Try.func15, Try.ntmps15
    go_wp2_with fail
    refine HIS.out.mono ?_
    rintro e w1 ⟨rfl, hb⟩
    go_wp2_with fail
    refine (HOF.out _).mono ?_
    rintro e w2 ⟨⟨s0, A0, n0, c0, rfl, _, D0⟩, hb2⟩
    have hB2 := since_step hb hb2
    have N0 := BN.new D0 69
    have hB3 := since_alloc hB2 (.cells #[.bool s0, .slice A0 n0 c0] 69)
    have HG10 : Hid (w.heap.size ≤ w2.heap.size) := Lib.hid hB2.size
    clear hb hb2 hB2 D0
    go_upto_region 4 with fail
    generalize hWW : w2.alloc (.cells #[.bool s0, .slice A0 n0 c0] 69) = W at *
    generalize hGG : w2.heap.size = g10 at *
    clear hWW hGG
    go_wp2_with fail
    go_loopw [11] (fun iv wr => ∃ (k : Nat) (s8 : Bool) (A8 : Option Addr) (n8 c8 : Nat), k ≤ l.length ∧ iv = .int .i64 k ∧ (∀ j, (hj : j < l.length) → j < k → lotE asl l[j] = 0) ∧ All64 (lotsV false asl (l.take k)) ∧ BN wr g10 s8 A8 n8 c8 (cash + (lotsV false asl (l.take k)).sum) ∧ Below w.heap.size w wr) (fun iv _ => l.length - (intOf iv).toNat)
    case atStart => exact ⟨0, s0, A0, n0, c0, by omega, rfl, fun j hj h => absurd h (by omega), (fun x hx => by simp [lotsV] at hx), by simpa [lotsV] using N0, hB3⟩
    case round =>
      obtain ⟨k, s8, A8, n8, c8, hk, rfl, hno, hall, X10, hB⟩ := hrel
      clear N0 hB3
      have hll : (lotsV false asl (l.take k)).length ≤ 1000 := by unfold lotsV; rw [List.length_map, List.length_take]; omega
      have hrg := sum_rng _ hall
      by_cases hlt : k < l.length
      · have hlk : (k : Int) < (l.length : Int) := by omega
        have hge : (0 : Int) ≤ (k : Int) := by omega
        obtain ⟨b, o, rfl, hbw, hg⟩ := (HSL.out _ (Below.refl _ w)).lt hlt
        have hq := hq6 _ (List.getElem_mem hlt)
        have hx := HOL.out k hlt
        have HST := Lib.hid (lotsV_snoc false asl l k hlt)
        have HS128 : Hid (In128 (cash + (lotsV false asl (l.take k)).sum)) := Lib.hid (by unfold In64 at hc6; unfold In128; omega)
        have HZS : Hid (cash + (lotsV false asl (l.take (k + 1))).sum = cash + (lotsV false asl (l.take k)).sum + lotV false asl l[k]) := Lib.hid (by rw [HST.out, List.sum_append]; simp; omega)
        have HEK := Lib.hid (fun n hn he => HER.out k n hlt hno hn he)
        have HNX : Hid (lotE asl l[k] = 0 → ∀ j, (hj : j < l.length) → j < k + 1 → lotE asl l[j] = 0) := Lib.hid fun h j hj hjk => by
          rcases Nat.lt_or_ge j k with h' | h'
          · exact hno j hj h'
          · obtain rfl : j = k := by omega
            exact h
        have HAL := Lib.hid hall
        clear hno hall hll hrg
        have HPL : Hid (∀ V, Below w.heap.size w V → l[k].at V b (o + k * 3)) := Lib.hid fun V hV => Lt.at_keep hg fun i => hV.cell (p := ⟨b, i, none⟩) hbw
        clear hg
        generalize hzz : cash + (lotsV false asl (l.take k)).sum = zz at *
        clear hzz
        generalize l[k] = v at *
        have HF := Lib.hid (HFD.out v.ast _ (HSA.out _ hB))
        cases hh : hasM asl v.ast with
        | false =>
          have HR := Lib.hid (HEK.out 11 (lotE_none hh) (by decide))
          rw [hh] at HF
          clear hh HEK HNX HST HZS
          obtain ⟨xa, xt, xq⟩ := v
          have hg := HPL.out _ hB
          obtain ⟨g0, g1_, g2⟩ := hg
          simp only at g0 g1_ g2 HF
          generalize findM asl xa = f at *
          obtain ⟨fi, fp, fh⟩ := f
          unfold Ax.val at HF
          simp only at HF
          go_wp2_with fail
          refine HF.out.mono ?_
          rintro e u1 ⟨rfl, hb⟩
          have hB3 := since_step hB hb
          have hsz3 := hB3.size
          go_wp2_with fail
          go_ret2
          refine ⟨by rw [HR.out]; rfl, ?_⟩
          repeat' (first | with_reducible exact hB3 | with_reducible refine Below.setCell ?_ ?_ _ | with_reducible refine Below.alloc ?_ ?_ _)
          all_goals first | omega | (simp; done) | (simp; omega)
        | true =>
          have hok := findM_ok ho hh
          have hpr : In64 (findM asl v.ast).price := by have := hok.2.2.1; simp only at this; unfold In64; omega
          have hLV : lotV false asl v = v.qty * (findM asl v.ast).price := if_neg (by simp)
          have hLE := lotE_some hh
          have HL6 : Hid (In64 (v.qty * (findM asl v.ast).price) → In64 (lotV false asl v)) := Lib.hid fun h6 => by
            have h0 : lotE asl v = 0 := by rw [hLE]; exact (fit64 h6).2
            exact ((lot_worth ho hh).2 h0).2
          have HZ128 : Hid (In128 (v.qty * (findM asl v.ast).price)) := Lib.hid (by
            have := abs_mul_leC (A := 9223372036854775808) (B := 9223372036854775808) (a := v.qty) (b := (findM asl v.ast).price) (by unfold In64 at hq; omega) (by unfold In64 at hpr; omega)
            unfold In128; omega)
          have HL128 : Hid (In64 (v.qty * (findM asl v.ast).price) → In128 (lotV false asl v)) := Lib.hid fun h6 => by have := HL6.out h6; unfold In64 at this; unfold In128; omega
          have HWO := fun V => rworth_any ⟨(findM asl v.ast).id, (findM asl v.ast).price, (findM asl v.ast).hc⟩ v.qty V hq hpr

          rw [hLE] at HNX HEK
          rw [hLV] at HZS HST HL6 HL128
          rw [hh] at HF
          clear hh hpr hok hx hLV hLE
          obtain ⟨xa, xt, xq⟩ := v
          simp only at HF HWO HNX HEK HZS HST HL6 HL128 HZ128 hq
          generalize findM asl xa = f at *
          obtain ⟨fi, fp, fh⟩ := f
          unfold Ax.val at HF
          unfold astV at HWO
          simp only at HF HWO HNX HEK HZS HST HL6 HL128 HZ128
          generalize hzw : xq * fp = zw at *
          clear hzw


          have HWO := Lib.hid HWO

          have HYE : Hid (In64 zw → ∀ j, (hj : j < l.length) → j < k + 1 → lotE asl l[j] = 0) := Lib.hid fun h6 => HNX.out (fit64 h6).2
          have HNE : Hid (¬ In64 zw → R = (0, 7)) := Lib.hid fun h6 => HEK.out 7 (far64 h6).2 (by decide)
          clear HNX HEK
          have hg := HPL.out _ hB
          obtain ⟨g0, g1_, g2⟩ := hg
          simp only at g0 g1_ g2
          go_wp2_with fail
          refine HF.out.mono ?_
          rintro e u1 ⟨rfl, hb⟩
          have hB3 := since_step hB hb
          have K9 := Bk.new u1 #[.int .i64 fi, .int .i64 fp, .int .i64 fh] 63
          have hB4 := since_alloc hB3 (.cells #[.int .i64 fi, .int .i64 fp, .int .i64 fh] 63)
          have X10 := (X10.below hb).below (since_alloc (Below.refl _ _) (.cells #[.int .i64 fi, .int .i64 fp, .int .i64 fh] 63))
          clear hb hB3 g0 g1_ g2
          go_upto_region 10 with fail
          generalize hYY : u1.alloc (.cells #[.int .i64 fi, .int .i64 fp, .int .i64 fh] 63) = Y at *
          generalize hGG : u1.heap.size = gy at *
          clear hYY hGG
          have HA3 : Hid (∀ V, Below Y.heap.size Y V → V.cell? ⟨gy, 0, none⟩ = some (.int .i64 fi) ∧ V.cell? ⟨gy, 1, none⟩ = some (.int .i64 fp) ∧ V.cell? ⟨gy, 2, none⟩ = some (.int .i64 fh)) := Lib.hid fun V h => ⟨(K9.below h).2 0, (K9.below h).2 1, (K9.below h).2 2⟩
          have HBY : Hid (∀ V, Below Y.heap.size Y V → Below w.heap.size w V) := Lib.hid fun V h => hB4.trans (h.mono hB4.size)
          have HQ2 : Hid (∀ V, Below Y.heap.size Y V → V.cell? ⟨b, o + k * 3 + 2, none⟩ = some (.int .i64 xq)) := Lib.hid fun V h => (HPL.out _ (HBY.out _ h)).2.2
          have H10 : Hid (∀ V, Below Y.heap.size Y V → BN V g10 s8 A8 n8 c8 zz) := Lib.hid fun V h => X10.below h
          clear X10 K9 hB4
          go_wp2_with fail
          refine wp_region_held_drew (S := (fun V => Below Y.heap.size Y V)) (by kernel_rfl) (by exact (Below.refl _ _).drew) (fun hHeld => ?_)
          generalize Y.drew = VE at *
          refine tkZ (i := 0) (oi := ⟨some 38, _, _, _, _, _⟩) (v := ?_) rfl (by kernel_rfl) (fun _ _ _ h => h) (Or.inl ⟨by rfl, ?_⟩) hHeld ?_
          rotate_left
          · (intro w hSw; obtain ⟨r0, r1, r2⟩ := HA3.out _ (hSw); have q2 := HQ2.out _ (hSw); go_simp <;> with_reducible rfl)
          try simp only [pqZ]
          refine tkZ (i := 1) (oi := ⟨some 39, _, _, _, _, _⟩) (v := ?_) rfl (by kernel_rfl) (fun _ _ _ h => h) (Or.inl ⟨by rfl, ?_⟩) hHeld ?_
          rotate_left
          · (intro w hSw; clear hSw; go_simp <;> with_reducible rfl)
          try simp only [pqZ]
          refine tkZ (i := 2) (oi := ⟨some 40, _, _, _, _, _⟩) (v := ?_) rfl (by kernel_rfl) (fun _ _ _ h => h) (Or.inl ⟨by rfl, ?_⟩) hHeld ?_
          rotate_left
          · (intro w hSw; clear hSw; go_simp <;> with_reducible rfl)
          try simp only [pqZ]
          refine tkZ (i := 3) (oi := ⟨some 41, _, _, _, _, _⟩) (v := ?_) rfl (by kernel_rfl) (fun _ _ _ h => h) (Or.inl ⟨by rfl, ?_⟩) hHeld ?_
          rotate_left
          · (intro w hSw; clear hSw; go_simp <;> with_reducible rfl)
          try simp only [pqZ]
          refine tkZ (i := 4) (oi := ⟨some 42, _, _, _, _, _⟩) (v := ?_) rfl (by kernel_rfl) (fun _ _ _ h => h) (Or.inl ⟨by rfl, ?_⟩) hHeld ?_
          rotate_left
          · (intro w hSw; clear hSw; go_simp <;> with_reducible rfl)
          try simp only [pqZ]
          refine tkZ (i := 5) (oi := ⟨some 43, _, _, _, _, _⟩) (v := ?_) rfl (by kernel_rfl) (fun _ _ _ h => h) (Or.inl ⟨by rfl, ?_⟩) hHeld ?_
          rotate_left
          · (intro w hSw; obtain ⟨r0, r1, r2⟩ := HA3.out _ (hSw); have q2 := HQ2.out _ (hSw); go_simp <;> with_reducible rfl)
          try simp only [pqZ]
          refine wpAnyH_ready (rs := [6, 7]) (by kernel_rfl) (by simp) ?_
          refine AllReadyH.cons (o := ⟨some 44, _, _, _, _, _⟩) rfl (fun K hK => ?_) (AllReadyH.cons (o := ⟨some 14, _, _, _, _, _⟩) rfl (fun K hK => ?_) AllReadyH.nil)
          · go_simp
            refine (HWO.out _).mono ?_
            rintro e x1 ⟨⟨s4, A4, n4, c4, rfl, hf4, D4⟩, hk1⟩
            have hKeep := since_step hHeld hk1
            have hk1' := hk1
            go_wp2_with fail
            refine hK.out _ _ (by (try dsimp only); exact hKeep) (fun hHeld => ?_)
            clear hK K hKeep
            try simp only [pqZ]
            refine wpAnyH_ready (rs := [7]) (by kernel_rfl) (by simp) ?_
            refine AllReadyH.cons (o := ⟨some 14, _, _, _, _, _⟩) rfl (fun K hK => ?_) AllReadyH.nil
            have hHd := hHeld
            obtain ⟨r0, r1, r2⟩ := HA3.out _ (hHd); have q2 := HQ2.out _ (hHd)
            have hHp := hHeld
            have X := BB.new x1 false none 0 0 69
            have hKeep := since_alloc hHeld (.cells #[.bool false, .slice none 0 0] 69)
            go_simp
            refine hK.out _ _ (by (try dsimp only); exact hKeep) (fun hHeld => ?_)
            clear hK K hKeep
            try simp only [pqZ]
            refine wpAnyH_ready (rs := [8]) (by kernel_rfl) (by simp) ?_
            refine AllReadyH.cons (o := ⟨none, _, _, _, _, _⟩) rfl (fun K hK => ?_) AllReadyH.nil
            have hHd := hHeld
            obtain ⟨r0, r1, r2⟩ := HA3.out _ (hHd); have q2 := HQ2.out _ (hHd)
            obtain ⟨y0, y1, y2, y3, y4⟩ := id X
            have E4 := BN.new D4 69
            have hKeep := since_alloc hHp (.cells #[.bool s4, .slice A4 n4 c4] 69)
            skip
            go_simp
            refine hK.out _ _ (by (try dsimp only); exact hKeep) (fun hHeld => ?_)
            clear hK K hKeep
            try simp only [pqZ]
            refine wpAnyH_done (by kernel_rfl) ?_ _
            have hUW := since_alloc (Below.refl x1.heap.size x1) (.cells #[.bool s4, .slice A4 n4 c4] 69)
            have hYU := hHp
            generalize hFW : (x1.alloc (.cells #[.bool s4, .slice A4 n4 c4] 69)) = FW at *
            generalize hUU : x1 = U at *
            clear hFW hUU
            have B10 := H10.out _ hYU
            have g10l := B10.1.1
            have hBU := HBY.out _ hYU
            have HA3 : Hid (∀ V, Below U.heap.size U V → V.cell? ⟨gy, 0, none⟩ = some (.int .i64 fi) ∧ V.cell? ⟨gy, 1, none⟩ = some (.int .i64 fp) ∧ V.cell? ⟨gy, 2, none⟩ = some (.int .i64 fh)) := Lib.hid fun V h => HA3.out _ (hYU.trans (h.mono hYU.size))
            have HQ2 : Hid (∀ V, Below U.heap.size U V → V.cell? ⟨b, o + k * 3 + 2, none⟩ = some (.int .i64 xq)) := Lib.hid fun V h => HQ2.out _ (hYU.trans (h.mono hYU.size))
            have H10 : Hid (∀ V, Below U.heap.size U V → BN V g10 s8 A8 n8 c8 zz) := Lib.hid fun V h => B10.below h
            clear hHeld hHp HBY hYU
            try clear hk1'
            try clear X y0 y1 y2 y3 y4
            try clear hf4
            have L4 := E4.2.l128 HZ128.out
            obtain ⟨y0, y1, y2, y3, y4⟩ := id E4.1
            by_cases h6 : In64 zw
            · have HFI := Lib.hid (fun s A n c V (h : n ≤ 100000) hx => bfits_any zw s A n c V h hx)
              rw [inN_yes h6] at HFI
              have HNO := Lib.hid (HYE.out h6)
              have hl6 := HL6.out h6
              have HL128 := Lib.hid (HL128.out h6)
              have HAN : Hid (All64 (lotsV false asl (l.take k) ++ [zw])) := Lib.hid fun x hx => by
                rcases List.mem_append.1 hx with hx | hx
                · exact HAL.out x hx
                · rw [List.mem_singleton.1 hx]; exact hl6
              clear HYE HNE h6 HL6
              go_wp2_with fail
              refine (HFI.out _ _ _ _ _ (by omega) E4.2).mono ?_
              rintro e u2 ⟨rfl, hb⟩
              have hUW := since_step hUW hb
              have E4 := E4.below hb
              clear hb y0 y1 y2 y3 y4 HFI
              have L5 := E4.2.l128 HL128.out
              have B11 := H10.out _ hUW
              have L8 := B11.2.l128 HS128.out
              obtain ⟨y0, y1, y2, y3, y4⟩ := id E4.1
              obtain ⟨t0, t1, t2, t3, t4⟩ := id B11.1
              have hcs := @cell_set
              go_wp2_with fail
              refine (badd' (by omega) (by omega) B11.2 E4.2).mono ?_
              rintro e u3 ⟨⟨s6, A6, n6, c6, rfl, hf6, D6⟩, hb⟩
              have hg10c : g10 < u2.heap.size := t0
              have hUW3 := since_step hUW hb
              have B12 := B11.below hb
              obtain ⟨t0_, t1_, t2_, t3_, t4_⟩ := id B12.1
              have hB9 := hBU.trans (hUW3.mono hBU.size)
              have N10 := BN.put B12.1 D6 hf6 (g := g10) hg10c
              have hBn := Below.setCell (Below.setCell hB9 (p := ⟨g10, 0, none⟩) HG10.out (.bool s6)) (p := ⟨g10, 1, none⟩) HG10.out (.slice A6 n6 c6)
              clear y0 y1 y2 y3 y4 t0 t1 t2 t3 t4 hb
              go_wp2_with fail
              go_roundw
              case rel => exact ⟨k + 1, s6, A6, n6, c6, by omega, by go_num, HNO.out, by rw [HST.out]; exact HAN.out, by rw [HZS.out]; exact N10, hBn⟩
              case measure => simp [intOf]; omega
            · have HFI := Lib.hid (fun s A n c V (h : n ≤ 100000) hx => bfits_any zw s A n c V h hx)
              rw [inN_no h6] at HFI
              have HR := Lib.hid (HNE.out h6)
              clear HYE HNE h6 HL6 HAL
              go_wp2_with fail
              refine (HFI.out _ _ _ _ _ (by omega) E4.2).mono ?_
              rintro e u2 ⟨rfl, hb⟩
              have hUW := since_step hUW hb
              clear hb y0 y1 y2 y3 y4 HFI E4
              go_wp2_with fail
              go_ret2
              exact ⟨by rw [HR.out]; rfl, hBU.trans (hUW.mono hBU.size)⟩
          · have hHd := hHeld
            obtain ⟨r0, r1, r2⟩ := HA3.out _ (hHd); have q2 := HQ2.out _ (hHd)
            have hHp := hHeld
            have X := BB.new VE false none 0 0 69
            have hKeep := since_alloc hHeld (.cells #[.bool false, .slice none 0 0] 69)
            go_simp
            refine hK.out _ _ (by (try dsimp only); exact hKeep) (fun hHeld => ?_)
            clear hK K hKeep
            try simp only [pqZ]
            refine wpAnyH_ready (rs := [6]) (by kernel_rfl) (by simp) ?_
            refine AllReadyH.cons (o := ⟨some 44, _, _, _, _, _⟩) rfl (fun K hK => ?_) AllReadyH.nil
            go_simp
            refine (HWO.out _).mono ?_
            rintro e x1 ⟨⟨s4, A4, n4, c4, rfl, hf4, D4⟩, hk1⟩
            have hKeep := since_step hHeld hk1
            have X := X.below hk1
            have hgl := X.1
            have hk1' := hk1
            go_wp2_with fail
            refine hK.out _ _ (by (try dsimp only); exact hKeep) (fun hHeld => ?_)
            clear hK K hKeep
            try simp only [pqZ]
            refine wpAnyH_ready (rs := [8]) (by kernel_rfl) (by simp) ?_
            refine AllReadyH.cons (o := ⟨none, _, _, _, _, _⟩) rfl (fun K hK => ?_) AllReadyH.nil
            have hHd := hHeld
            obtain ⟨r0, r1, r2⟩ := HA3.out _ (hHd); have q2 := HQ2.out _ (hHd)
            obtain ⟨y0, y1, y2, y3, y4⟩ := id X
            have hY4 : Y.heap.size ≤ VE.heap.size := hHp.size
            have E4 := BN.put X D4 hf4 (g := VE.heap.size) (by have := World.size_alloc VE (.cells #[.bool false, .slice none 0 0] 69); omega)
            have hKeep := Below.setCell (Below.setCell hHeld (p := ⟨VE.heap.size, 0, none⟩) hY4 (.bool s4)) (p := ⟨VE.heap.size, 1, none⟩) hY4 (.slice A4 n4 c4)
            skip
            go_simp
            refine hK.out _ _ (by (try dsimp only); exact hKeep) (fun hHeld => ?_)
            clear hK K hKeep
            try simp only [pqZ]
            refine wpAnyH_done (by kernel_rfl) ?_ _
            have hUW := Below.setCell (Below.setCell (since_step (since_alloc (Below.refl VE.heap.size VE) (.cells #[.bool false, .slice none 0 0] 69)) hk1') (p := ⟨VE.heap.size, 0, none⟩) (Nat.le_refl _) (.bool s4)) (p := ⟨VE.heap.size, 1, none⟩) (Nat.le_refl _) (.slice A4 n4 c4)
            have hYU := hHp
            generalize hFW : ((x1.setCell ⟨VE.heap.size, 0, none⟩ (.bool s4)).setCell ⟨VE.heap.size, 1, none⟩ (.slice A4 n4 c4)) = FW at *
            generalize hUU : VE = U at *
            clear hFW hUU
            have B10 := H10.out _ hYU
            have g10l := B10.1.1
            have hBU := HBY.out _ hYU
            have HA3 : Hid (∀ V, Below U.heap.size U V → V.cell? ⟨gy, 0, none⟩ = some (.int .i64 fi) ∧ V.cell? ⟨gy, 1, none⟩ = some (.int .i64 fp) ∧ V.cell? ⟨gy, 2, none⟩ = some (.int .i64 fh)) := Lib.hid fun V h => HA3.out _ (hYU.trans (h.mono hYU.size))
            have HQ2 : Hid (∀ V, Below U.heap.size U V → V.cell? ⟨b, o + k * 3 + 2, none⟩ = some (.int .i64 xq)) := Lib.hid fun V h => HQ2.out _ (hYU.trans (h.mono hYU.size))
            have H10 : Hid (∀ V, Below U.heap.size U V → BN V g10 s8 A8 n8 c8 zz) := Lib.hid fun V h => B10.below h
            clear hHeld hHp HBY hYU
            try clear hk1'
            try clear X y0 y1 y2 y3 y4
            try clear hf4
            have L4 := E4.2.l128 HZ128.out
            obtain ⟨y0, y1, y2, y3, y4⟩ := id E4.1
            by_cases h6 : In64 zw
            · have HFI := Lib.hid (fun s A n c V (h : n ≤ 100000) hx => bfits_any zw s A n c V h hx)
              rw [inN_yes h6] at HFI
              have HNO := Lib.hid (HYE.out h6)
              have hl6 := HL6.out h6
              have HL128 := Lib.hid (HL128.out h6)
              have HAN : Hid (All64 (lotsV false asl (l.take k) ++ [zw])) := Lib.hid fun x hx => by
                rcases List.mem_append.1 hx with hx | hx
                · exact HAL.out x hx
                · rw [List.mem_singleton.1 hx]; exact hl6
              clear HYE HNE h6 HL6
              go_wp2_with fail
              refine (HFI.out _ _ _ _ _ (by omega) E4.2).mono ?_
              rintro e u2 ⟨rfl, hb⟩
              have hUW := since_step hUW hb
              have E4 := E4.below hb
              clear hb y0 y1 y2 y3 y4 HFI
              have L5 := E4.2.l128 HL128.out
              have B11 := H10.out _ hUW
              have L8 := B11.2.l128 HS128.out
              obtain ⟨y0, y1, y2, y3, y4⟩ := id E4.1
              obtain ⟨t0, t1, t2, t3, t4⟩ := id B11.1
              have hcs := @cell_set
              go_wp2_with fail
              refine (badd' (by omega) (by omega) B11.2 E4.2).mono ?_
              rintro e u3 ⟨⟨s6, A6, n6, c6, rfl, hf6, D6⟩, hb⟩
              have hg10c : g10 < u2.heap.size := t0
              have hUW3 := since_step hUW hb
              have B12 := B11.below hb
              obtain ⟨t0_, t1_, t2_, t3_, t4_⟩ := id B12.1
              have hB9 := hBU.trans (hUW3.mono hBU.size)
              have N10 := BN.put B12.1 D6 hf6 (g := g10) hg10c
              have hBn := Below.setCell (Below.setCell hB9 (p := ⟨g10, 0, none⟩) HG10.out (.bool s6)) (p := ⟨g10, 1, none⟩) HG10.out (.slice A6 n6 c6)
              clear y0 y1 y2 y3 y4 t0 t1 t2 t3 t4 hb
              go_wp2_with fail
              go_roundw
              case rel => exact ⟨k + 1, s6, A6, n6, c6, by omega, by go_num, HNO.out, by rw [HST.out]; exact HAN.out, by rw [HZS.out]; exact N10, hBn⟩
              case measure => simp [intOf]; omega
            · have HFI := Lib.hid (fun s A n c V (h : n ≤ 100000) hx => bfits_any zw s A n c V h hx)
              rw [inN_no h6] at HFI
              have HR := Lib.hid (HNE.out h6)
              clear HYE HNE h6 HL6 HAL
              go_wp2_with fail
              refine (HFI.out _ _ _ _ _ (by omega) E4.2).mono ?_
              rintro e u2 ⟨rfl, hb⟩
              have hUW := since_step hUW hb
              clear hb y0 y1 y2 y3 y4 HFI E4
              go_wp2_with fail
              go_ret2
              exact ⟨by rw [HR.out]; rfl, hBU.trans (hUW.mono hBU.size)⟩
      · obtain rfl : k = l.length := by omega
        rw [List.take_length] at X10 hrg hall hll
        have HR := Lib.hid (HOK.out fun j hj => hno j hj hj)
        have h128 : In128 (cash + (lotsV false asl l).sum) := by unfold In64 at hc6; unfold In128; omega
        clear hno hrg hall hll
        generalize cash + (lotsV false asl l).sum = zz at *
        have L8 := X10.2.l128 h128
        obtain ⟨t0, t1, t2, t3, t4⟩ := id X10.1
        by_cases h6 : In64 zz
        · have HFI := Lib.hid (fun s A n c V (h : n ≤ 100000) hx => bfits_any zz s A n c V h hx)
          rw [inN_yes h6] at HFI
          have HFF := Lib.hid (fit64 h6)
          have HIN := Lib.hid (fun s A n c V (h : BigAt V s A n c zz) => rint_any zz h6 s A n c V h)
          clear h6 h128
          go_wp2_with fail
          refine (HFI.out _ _ _ _ _ (by omega) X10.2).mono ?_
          rintro e u1 ⟨rfl, hb⟩
          have hB3 := since_step hB hb
          have X10 := X10.below hb
          clear t0 t1 t2 t3 t4 hb
          obtain ⟨t0, t1, t2, t3, t4⟩ := id X10.1
          go_wp2_with fail
          refine (HIN.out _ _ _ _ _ X10.2).mono ?_
          rintro e u2 ⟨rfl, hb⟩
          have hB4 := since_step hB3 hb
          go_wp2_with fail
          go_ret2
          exact ⟨by rw [HR.out, HFF.out.1, HFF.out.2]; rfl, hB4⟩
        · have HFI := Lib.hid (fun s A n c V (h : n ≤ 100000) hx => bfits_any zz s A n c V h hx)
          rw [inN_no h6] at HFI
          have HFF := Lib.hid (far64 h6)
          clear h6 h128
          go_wp2_with fail
          refine (HFI.out _ _ _ _ _ (by omega) X10.2).mono ?_
          rintro e u1 ⟨rfl, hb⟩
          have hB3 := since_step hB hb
          go_wp2_with fail
          go_ret2
          exact ⟨by rw [HR.out, HFF.out.1, HFF.out.2]; rfl, hB3⟩
end Go.Proofs.Ytlbccpiadmcpjaa
end
