import Derived.Test.YtmjndpkfhdoljaaGreatCm34
import Derived.Deep.RegionLaw
import Derived.Lib.SliceRun
import Derived.Test.YtmjndpkfhdoljaaGreatCm01
set_option maxHeartbeats 16000000
set_option maxRecDepth 100000
set_option linter.unusedVariables false
set_option linter.unusedSimpArgs false
namespace Go.Proofs.YtmjndpkfhdoljaaGreat
open Go.ChangeShapes Go.WideShapes Go.ChangeAt Go.RowKit
section
theorem EN : Elem Tryz.prog 71 2 1 8 := Elem.mk' (z := .int .i64 0) (by kernel_rfl) (by kernel_rfl) (by decide) (by decide)
theorem own_one (w : World) (B : Nat) (hb : B ≤ w.heap.size) (x : Int) : (w.alloc (.cells #[.int .i64 x] 2)).ownsRow B 2 1 (.slice (some ⟨w.heap.size, 0, none⟩) 1 1) 1 (ints .i64 [x]) :=
  ⟨by simp [ints], .inr ⟨w.heap.size, 1, #[.int .i64 x], rfl, hb, Go.heap_alloc_new w _, Nat.le_refl _, by unfold maxLen; omega, rfl, by simp [ints]⟩⟩
theorem ints_snoc (l : List Int) (x : Int) : ints .i64 l ++ [.int .i64 x] = ints .i64 (l ++ [x]) := by simp [ints]
theorem csum_count (A : Option Addr) (cap : Nat) (asl : List Ax) (LA : Option Addr) (lc : Nat) (l : List Lt) (cash : Int) (w : World) (ha : asl.length ≤ 100000) (hl : l.length ≤ 100000) (ho : OkM asl) (hp6 : ∀ g ∈ asl, In64 g.price) (hq6 : ∀ x ∈ l, In64 x.qty) (hc6 : In64 cash) (hs : Sl w A (rc Ax.cells asl)) (hls : Sl w LA (rc Lt.cells l)) :
    Calls Tryz.prog 45 #[.slice A asl.length cap, .slice LA l.length lc, .int .i64 cash, .func (.func 46) #[] #[]] w fun e w' => e = .returned (.tuple #[.int .i64 (covR true asl l cash).1, .int .i64 (covR true asl l cash).2]) ∧ Below w.heap.size w w' := by
  have HIS := Lib.hid (lis_any LA lc l w (by omega) hls)
  have HSA : Hid (∀ V, Below w.heap.size w V → Sl V A (rc Ax.cells asl)) := Lib.hid fun V h => hs.below h
  have HSL : Hid (∀ V, Below w.heap.size w V → Sl V LA (rc Lt.cells l)) := Lib.hid fun V h => hls.below h
  have HFD := Lib.hid (fun id V h => mfind_any A cap asl id V (by omega) h)
  clear hs hls
  obtain ⟨R, hR⟩ : ∃ R, covR true asl l cash = R := ⟨_, rfl⟩
  rw [hR]
  have HRR := Lib.hid hR
  clear hR
  cases hi : isLs l with
  | false =>
    have HR := Lib.hid (HRR.out.symm.trans (covR_form (b := true) (asl := asl) (cash := cash) hi))
    rw [hi] at HIS
    clear hi
    go_enter Tryz.func45, Tryz.ntmps45
    go_wp2_with fail
    refine HIS.out.mono ?_
    rintro e w1 ⟨rfl, hb⟩
    go_wp2_with fail
    go_ret2
    exact ⟨by rw [HR.out]; rfl, hb⟩
  | true =>
    rw [hi] at HIS
    have HOL : Hid (∀ k, (hk : k < l.length) → okL l[k] = true) := Lib.hid fun k hk => by
      unfold isLs at hi
      simp only [Bool.and_eq_true, List.all_eq_true] at hi
      exact hi.1.1 _ (List.getElem_mem hk)
    have HER := Lib.hid (fun k n (hk : k < l.length) hno hn he => HRR.out.symm.trans (covR_err (b := true) (asl := asl) (cash := cash) (k := k) (n := n) hi hk hno hn he))
    have HOK := Lib.hid (fun h => HRR.out.symm.trans (covR_ok (b := true) (asl := asl) (cash := cash) hi h))
    clear hi
    go_enter Tryz.func45, Tryz.ntmps45
    go_wp2_with fail
    refine HIS.out.mono ?_
    rintro e w1 ⟨rfl, hb⟩
    have hown1 := own_one w1 w.heap.size hb.size cash
    have hB1 := since_alloc hb (.cells #[.int .i64 cash] 2)
    clear hb
    go_upto_region 4 with fail
    generalize hWW : w1.alloc (.cells #[.int .i64 cash] 2) = W at *
    generalize hGG : w1.heap.size = g1 at *
    clear hWW hGG
    go_wp2_with fail
    go_loopw [10, 24] (fun out iv wr => ∃ (k : Nat) (A' : Option Addr) (c' : Nat), k ≤ l.length ∧ iv = .int .i64 k ∧ out = .slice A' (k + 1) c' ∧ (∀ j, (hj : j < l.length) → j < k → lotE asl l[j] = 0) ∧ All64 (lotsV true asl (l.take k)) ∧ wr.ownsRow w.heap.size 2 1 (.slice A' (k + 1) c') (k + 1) (ints .i64 (cash :: lotsV true asl (l.take k))) ∧ Below w.heap.size w wr) (fun _ iv _ => l.length - (intOf iv).toNat)
    case atStart => exact ⟨0, _, _, by omega, rfl, rfl, fun j hj h => absurd h (by omega), (fun x hx => by simp [lotsV] at hx), hown1, hB1⟩
    case round =>
      obtain ⟨k, A', c', hk, rfl, rfl, hno, hall, hown, hB⟩ := hrel
      clear hown1 hB1
      by_cases hlt : k < l.length
      · have hlk : (k : Int) < (l.length : Int) := by omega
        have hge : (0 : Int) ≤ (k : Int) := by omega
        obtain ⟨b, o, rfl, hbw, hg⟩ := (HSL.out _ hB).lt hlt
        have hq := hq6 _ (List.getElem_mem hlt)
        have hx := HOL.out k hlt
        have HST := Lib.hid (lotsV_snoc true asl l k hlt)
        have HEK := Lib.hid (fun n hn he => HER.out k n hlt hno hn he)
        have HNX : Hid (lotE asl l[k] = 0 → ∀ j, (hj : j < l.length) → j < k + 1 → lotE asl l[j] = 0) := Lib.hid fun h j hj hjk => by
          rcases Nat.lt_or_ge j k with h' | h'
          · exact hno j hj h'
          · obtain rfl : j = k := by omega
            exact h
        have HAL := Lib.hid hall
        clear hno hall
        generalize l[k] = v at *
        have hsz := hB.size
        have hBA := since_alloc hB (.cells v.cells.toArray 33)
        have HF := Lib.hid (HFD.out v.ast _ (HSA.out _ hBA))
        have hownA := hown.alloc (.cells v.cells.toArray 33)
        have HK := Bk.new wr v.cells.toArray 33
        clear hown
        cases hh : hasM asl v.ast with
        | false =>
          have HR := Lib.hid (HEK.out 11 (lotE_none hh) (by decide))
          rw [hh] at HF
          clear hh HEK HNX HST
          obtain ⟨xa, xt, xq⟩ := v
          obtain ⟨g0, g1_, g2⟩ := hg
          simp only [Lt.cells] at g0 g1_ g2 HF hBA HK hownA
          generalize findM asl xa = f at *
          obtain ⟨fi, fp, fh⟩ := f
          unfold Ax.val at HF
          simp only at HF
          go_wp2_with fail
          refine HF.out.mono ?_
          rintro e u1 ⟨rfl, hb⟩
          have hB3 := since_step hBA hb
          have hsz3 := hB3.size
          go_wp2_with fail
          go_ret2
          refine ⟨by rw [HR.out]; rfl, ?_⟩
          repeat' (first | with_reducible exact hB3 | with_reducible refine Below.setCell ?_ ?_ _ | with_reducible refine Below.alloc ?_ ?_ _)
          all_goals first | omega | (simp; done) | (simp; omega)
        | true =>
          obtain ⟨hE, hV⟩ := lot_count ho hx hh
          have hpr : In64 (findM asl v.ast).price := by
            rcases mfind_cases asl v.ast with ⟨h1, _⟩ | ⟨j, hj, h1, _, h3, _⟩
            · rw [h1] at hh; cases hh
            · rw [h3]; exact hp6 _ (List.getElem_mem hj)
          have hEC := fun V => count_any ⟨(findM asl v.ast).id, (findM asl v.ast).price, (findM asl v.ast).hc⟩ v.qty V hq hpr
          rw [hE] at hEC
          rw [hh] at HF
          clear hh hE hpr
          obtain ⟨ee, hee⟩ : ∃ ee, lotE asl v = ee := ⟨_, rfl⟩
          rw [hee] at hEC hV HNX HEK
          obtain ⟨vv, hvv⟩ : ∃ vv, countV ⟨(findM asl v.ast).id, (findM asl v.ast).price, (findM asl v.ast).hc⟩ v.qty = vv := ⟨_, rfl⟩
          rw [hvv] at hEC hV
          clear hee hvv
          have HV := Lib.hid hV
          clear hV hx
          generalize lotV true asl v = lv at *
          obtain ⟨xa, xt, xq⟩ := v
          obtain ⟨g0, g1_, g2⟩ := hg
          simp only [Lt.cells] at g0 g1_ g2 HF hBA HK hownA hEC
          generalize findM asl xa = f at *
          obtain ⟨fi, fp, fh⟩ := f
          unfold Ax.val at HF
          unfold astV at hEC
          simp only at HF hEC
          have HEC := Lib.hid hEC
          clear hEC
          go_wp2_with fail
          refine HF.out.mono ?_
          rintro e u1 ⟨rfl, hb⟩
          have hB3 := since_step hBA hb
          have hownB := (own_below hownA hb).alloc (.cells #[.int .i64 fi, .int .i64 fp, .int .i64 fh] 63)
          have K9 := Bk.new u1 #[.int .i64 fi, .int .i64 fp, .int .i64 fh] 63
          have K8 := (HK.below hb).alloc (.cells #[.int .i64 fi, .int .i64 fp, .int .i64 fh] 63)
          have hB4 := since_alloc hB3 (.cells #[.int .i64 fi, .int .i64 fp, .int .i64 fh] 63)
          clear hb hownA HK hB3 g0 g1_ g2
          go_upto_region 10 with fail
          generalize hYY : u1.alloc (.cells #[.int .i64 fi, .int .i64 fp, .int .i64 fh] 63) = Y at *
          generalize hGG : u1.heap.size = gy at *
          clear hYY hGG
          have p0 := K9.2 0
          have p1 := K9.2 1
          have p2 := K9.2 2
          have q2 := K8.2 2
          simp at p0 p1 p2 q2
          clear K8 K9
          by_cases h0 : ee = 0
          · have hv := HV.out h0
            obtain ⟨hv1, hv2⟩ := hv
            subst h0
            have HVE := Lib.hid hv1
            have HNO := Lib.hid (HNX.out rfl)
            have HAN : Hid (All64 (lotsV true asl (l.take k) ++ [lv])) := Lib.hid fun x hx => by
              rcases List.mem_append.1 hx with hx | hx
              · exact HAL.out x hx
              · rw [List.mem_singleton.1 hx]; exact hv2
            clear hv1 hv2 HNX HEK HV HAL
            go_wp2_with fail
            refine (HEC.out _).mono ?_
            rintro e u2 ⟨rfl, hb⟩
            have hB5 := since_step hB4 hb
            have hownC := own_below hownB hb
            have hsz5 := hB5.size
            clear hb hownB p0 p1 p2 q2
            go_wp2_with (first
              | (at_builtin; refine wpList_app rfl (.tmp 48) (.tmp 50) rfl EN rfl rfl (hownC.alloc _) (m := 1) (news := [.int .i64 vv]) rfl (Sl.new_ _ _ _) (by intro u hu; rw [List.mem_singleton.1 hu]; rfl) (by unfold maxLen; omega) (by omega) (by simp only [World.size_alloc]; omega) ?_; intro A2 c2 w3 hown4 hg3 hb3)
              | fail)
            go_roundw
            case rel =>
              refine ⟨k + 1, A2, c2, by omega, by go_num, rfl, HNO.out, by rw [HST.out]; exact HAN.out, ?_, (since_alloc hB5 _).trans hb3⟩
              rw [HST.out, ← HVE.out, ← List.cons_append, ← ints_snoc]; exact hown4
            case measure => simp [intOf]; omega
          · have HR := Lib.hid (HEK.out ee rfl h0)
            have hnb : (ee != 0) = true := by simpa using h0
            clear h0 HNX HEK HV HAL HST
            go_wp2_with fail
            refine (HEC.out _).mono ?_
            rintro e u2 ⟨rfl, hb⟩
            have hB5 := since_step hB4 hb
            go_wp2_with fail
            go_ret2
            exact ⟨by rw [HR.out]; rfl, hB5⟩
      · obtain rfl : k = l.length := by omega
        rw [List.take_length] at hown hall
        have HR := Lib.hid (HOK.out fun j hj => hno j hj hj)
        have hlen : (cash :: lotsV true asl l).length = l.length + 1 := by simp [lotsV]
        have hFS := fun V h => fsum_any A' c' (cash :: lotsV true asl l) V (by rw [hlen]; omega) (fun x hx => by
          rcases List.mem_cons.1 hx with rfl | hx
          · exact hc6
          · exact hall x hx) h
        rw [hlen, List.sum_cons] at hFS
        have HFS := Lib.hid hFS
        clear hFS hno hall hlen
        go_wp2_with fail
        refine (HFS.out _ (Sl.of_own hown)).mono ?_
        rintro e u1 ⟨rfl, hb⟩
        have hB3 := since_step hB hb
        go_wp2_with fail
        go_ret2
        exact ⟨by rw [HR.out]; rfl, hB3⟩
theorem csum_worth (A : Option Addr) (cap : Nat) (asl : List Ax) (LA : Option Addr) (lc : Nat) (l : List Lt) (cash : Int) (w : World) (ha : asl.length ≤ 100000) (hl : l.length ≤ 100000) (ho : OkM asl) (hp6 : ∀ g ∈ asl, In64 g.price) (hq6 : ∀ x ∈ l, In64 x.qty) (hc6 : In64 cash) (hs : Sl w A (rc Ax.cells asl)) (hls : Sl w LA (rc Lt.cells l)) :
    Calls Tryz.prog 45 #[.slice A asl.length cap, .slice LA l.length lc, .int .i64 cash, .func (.func 47) #[] #[]] w fun e w' => e = .returned (.tuple #[.int .i64 (covR false asl l cash).1, .int .i64 (covR false asl l cash).2]) ∧ Below w.heap.size w w' := by
  have HIS := Lib.hid (lis_any LA lc l w (by omega) hls)
  have HSA : Hid (∀ V, Below w.heap.size w V → Sl V A (rc Ax.cells asl)) := Lib.hid fun V h => hs.below h
  have HSL : Hid (∀ V, Below w.heap.size w V → Sl V LA (rc Lt.cells l)) := Lib.hid fun V h => hls.below h
  have HFD := Lib.hid (fun id V h => mfind_any A cap asl id V (by omega) h)
  clear hs hls
  obtain ⟨R, hR⟩ : ∃ R, covR false asl l cash = R := ⟨_, rfl⟩
  rw [hR]
  have HRR := Lib.hid hR
  clear hR
  cases hi : isLs l with
  | false =>
    have HR := Lib.hid (HRR.out.symm.trans (covR_form (b := false) (asl := asl) (cash := cash) hi))
    rw [hi] at HIS
    clear hi
    go_enter Tryz.func45, Tryz.ntmps45
    go_wp2_with fail
    refine HIS.out.mono ?_
    rintro e w1 ⟨rfl, hb⟩
    go_wp2_with fail
    go_ret2
    exact ⟨by rw [HR.out]; rfl, hb⟩
  | true =>
    rw [hi] at HIS
    have HOL : Hid (∀ k, (hk : k < l.length) → okL l[k] = true) := Lib.hid fun k hk => by
      unfold isLs at hi
      simp only [Bool.and_eq_true, List.all_eq_true] at hi
      exact hi.1.1 _ (List.getElem_mem hk)
    have HER := Lib.hid (fun k n (hk : k < l.length) hno hn he => HRR.out.symm.trans (covR_err (b := false) (asl := asl) (cash := cash) (k := k) (n := n) hi hk hno hn he))
    have HOK := Lib.hid (fun h => HRR.out.symm.trans (covR_ok (b := false) (asl := asl) (cash := cash) hi h))
    clear hi
    go_enter Tryz.func45, Tryz.ntmps45
    go_wp2_with fail
    refine HIS.out.mono ?_
    rintro e w1 ⟨rfl, hb⟩
    have hown1 := own_one w1 w.heap.size hb.size cash
    have hB1 := since_alloc hb (.cells #[.int .i64 cash] 2)
    clear hb
    go_upto_region 4 with fail
    generalize hWW : w1.alloc (.cells #[.int .i64 cash] 2) = W at *
    generalize hGG : w1.heap.size = g1 at *
    clear hWW hGG
    go_wp2_with fail
    go_loopw [10, 24] (fun out iv wr => ∃ (k : Nat) (A' : Option Addr) (c' : Nat), k ≤ l.length ∧ iv = .int .i64 k ∧ out = .slice A' (k + 1) c' ∧ (∀ j, (hj : j < l.length) → j < k → lotE asl l[j] = 0) ∧ All64 (lotsV false asl (l.take k)) ∧ wr.ownsRow w.heap.size 2 1 (.slice A' (k + 1) c') (k + 1) (ints .i64 (cash :: lotsV false asl (l.take k))) ∧ Below w.heap.size w wr) (fun _ iv _ => l.length - (intOf iv).toNat)
    case atStart => exact ⟨0, _, _, by omega, rfl, rfl, fun j hj h => absurd h (by omega), (fun x hx => by simp [lotsV] at hx), hown1, hB1⟩
    case round =>
      obtain ⟨k, A', c', hk, rfl, rfl, hno, hall, hown, hB⟩ := hrel
      clear hown1 hB1
      by_cases hlt : k < l.length
      · have hlk : (k : Int) < (l.length : Int) := by omega
        have hge : (0 : Int) ≤ (k : Int) := by omega
        obtain ⟨b, o, rfl, hbw, hg⟩ := (HSL.out _ hB).lt hlt
        have hq := hq6 _ (List.getElem_mem hlt)
        have hx := HOL.out k hlt
        have HST := Lib.hid (lotsV_snoc false asl l k hlt)
        have HEK := Lib.hid (fun n hn he => HER.out k n hlt hno hn he)
        have HNX : Hid (lotE asl l[k] = 0 → ∀ j, (hj : j < l.length) → j < k + 1 → lotE asl l[j] = 0) := Lib.hid fun h j hj hjk => by
          rcases Nat.lt_or_ge j k with h' | h'
          · exact hno j hj h'
          · obtain rfl : j = k := by omega
            exact h
        have HAL := Lib.hid hall
        clear hno hall
        generalize l[k] = v at *
        have hsz := hB.size
        have hBA := since_alloc hB (.cells v.cells.toArray 33)
        have HF := Lib.hid (HFD.out v.ast _ (HSA.out _ hBA))
        have hownA := hown.alloc (.cells v.cells.toArray 33)
        have HK := Bk.new wr v.cells.toArray 33
        clear hown
        cases hh : hasM asl v.ast with
        | false =>
          have HR := Lib.hid (HEK.out 11 (lotE_none hh) (by decide))
          rw [hh] at HF
          clear hh HEK HNX HST
          obtain ⟨xa, xt, xq⟩ := v
          obtain ⟨g0, g1_, g2⟩ := hg
          simp only [Lt.cells] at g0 g1_ g2 HF hBA HK hownA
          generalize findM asl xa = f at *
          obtain ⟨fi, fp, fh⟩ := f
          unfold Ax.val at HF
          simp only at HF
          go_wp2_with fail
          refine HF.out.mono ?_
          rintro e u1 ⟨rfl, hb⟩
          have hB3 := since_step hBA hb
          have hsz3 := hB3.size
          go_wp2_with fail
          go_ret2
          refine ⟨by rw [HR.out]; rfl, ?_⟩
          repeat' (first | with_reducible exact hB3 | with_reducible refine Below.setCell ?_ ?_ _ | with_reducible refine Below.alloc ?_ ?_ _)
          all_goals first | omega | (simp; done) | (simp; omega)
        | true =>
          obtain ⟨hE, hV⟩ := lot_worth ho hh
          have hpr : In64 (findM asl v.ast).price := by
            rcases mfind_cases asl v.ast with ⟨h1, _⟩ | ⟨j, hj, h1, _, h3, _⟩
            · rw [h1] at hh; cases hh
            · rw [h3]; exact hp6 _ (List.getElem_mem hj)
          have hEC := fun V => worth_any ⟨(findM asl v.ast).id, (findM asl v.ast).price, (findM asl v.ast).hc⟩ v.qty V hq hpr
          rw [hE] at hEC
          rw [hh] at HF
          clear hh hE hpr
          obtain ⟨ee, hee⟩ : ∃ ee, lotE asl v = ee := ⟨_, rfl⟩
          rw [hee] at hEC hV HNX HEK
          obtain ⟨vv, hvv⟩ : ∃ vv, worthV ⟨(findM asl v.ast).id, (findM asl v.ast).price, (findM asl v.ast).hc⟩ v.qty = vv := ⟨_, rfl⟩
          rw [hvv] at hEC hV
          clear hee hvv
          have HV := Lib.hid hV
          clear hV hx
          generalize lotV false asl v = lv at *
          obtain ⟨xa, xt, xq⟩ := v
          obtain ⟨g0, g1_, g2⟩ := hg
          simp only [Lt.cells] at g0 g1_ g2 HF hBA HK hownA hEC
          generalize findM asl xa = f at *
          obtain ⟨fi, fp, fh⟩ := f
          unfold Ax.val at HF
          unfold astV at hEC
          simp only at HF hEC
          have HEC := Lib.hid hEC
          clear hEC
          go_wp2_with fail
          refine HF.out.mono ?_
          rintro e u1 ⟨rfl, hb⟩
          have hB3 := since_step hBA hb
          have hownB := (own_below hownA hb).alloc (.cells #[.int .i64 fi, .int .i64 fp, .int .i64 fh] 63)
          have K9 := Bk.new u1 #[.int .i64 fi, .int .i64 fp, .int .i64 fh] 63
          have K8 := (HK.below hb).alloc (.cells #[.int .i64 fi, .int .i64 fp, .int .i64 fh] 63)
          have hB4 := since_alloc hB3 (.cells #[.int .i64 fi, .int .i64 fp, .int .i64 fh] 63)
          clear hb hownA HK hB3 g0 g1_ g2
          go_upto_region 10 with fail
          generalize hYY : u1.alloc (.cells #[.int .i64 fi, .int .i64 fp, .int .i64 fh] 63) = Y at *
          generalize hGG : u1.heap.size = gy at *
          clear hYY hGG
          have p0 := K9.2 0
          have p1 := K9.2 1
          have p2 := K9.2 2
          have q2 := K8.2 2
          simp at p0 p1 p2 q2
          clear K8 K9
          by_cases h0 : ee = 0
          · have hv := HV.out h0
            obtain ⟨hv1, hv2⟩ := hv
            subst h0
            have HVE := Lib.hid hv1
            have HNO := Lib.hid (HNX.out rfl)
            have HAN : Hid (All64 (lotsV false asl (l.take k) ++ [lv])) := Lib.hid fun x hx => by
              rcases List.mem_append.1 hx with hx | hx
              · exact HAL.out x hx
              · rw [List.mem_singleton.1 hx]; exact hv2
            clear hv1 hv2 HNX HEK HV HAL
            go_wp2_with fail
            refine (HEC.out _).mono ?_
            rintro e u2 ⟨rfl, hb⟩
            have hB5 := since_step hB4 hb
            have hownC := own_below hownB hb
            have hsz5 := hB5.size
            clear hb hownB p0 p1 p2 q2
            go_wp2_with (first
              | (at_builtin; refine wpList_app rfl (.tmp 48) (.tmp 50) rfl EN rfl rfl (hownC.alloc _) (m := 1) (news := [.int .i64 vv]) rfl (Sl.new_ _ _ _) (by intro u hu; rw [List.mem_singleton.1 hu]; rfl) (by unfold maxLen; omega) (by omega) (by simp only [World.size_alloc]; omega) ?_; intro A2 c2 w3 hown4 hg3 hb3)
              | fail)
            go_roundw
            case rel =>
              refine ⟨k + 1, A2, c2, by omega, by go_num, rfl, HNO.out, by rw [HST.out]; exact HAN.out, ?_, (since_alloc hB5 _).trans hb3⟩
              rw [HST.out, ← HVE.out, ← List.cons_append, ← ints_snoc]; exact hown4
            case measure => simp [intOf]; omega
          · have HR := Lib.hid (HEK.out ee rfl h0)
            have hnb : (ee != 0) = true := by simpa using h0
            clear h0 HNX HEK HV HAL HST
            go_wp2_with fail
            refine (HEC.out _).mono ?_
            rintro e u2 ⟨rfl, hb⟩
            have hB5 := since_step hB4 hb
            go_wp2_with fail
            go_ret2
            exact ⟨by rw [HR.out]; rfl, hB5⟩
      · obtain rfl : k = l.length := by omega
        rw [List.take_length] at hown hall
        have HR := Lib.hid (HOK.out fun j hj => hno j hj hj)
        have hlen : (cash :: lotsV false asl l).length = l.length + 1 := by simp [lotsV]
        have hFS := fun V h => fsum_any A' c' (cash :: lotsV false asl l) V (by rw [hlen]; omega) (fun x hx => by
          rcases List.mem_cons.1 hx with rfl | hx
          · exact hc6
          · exact hall x hx) h
        rw [hlen, List.sum_cons] at hFS
        have HFS := Lib.hid hFS
        clear hFS hno hall hlen
        go_wp2_with fail
        refine (HFS.out _ (Sl.of_own hown)).mono ?_
        rintro e u1 ⟨rfl, hb⟩
        have hB3 := since_step hB hb
        go_wp2_with fail
        go_ret2
        exact ⟨by rw [HR.out]; rfl, hB3⟩
theorem cvalue_any (A : Option Addr) (cap : Nat) (asl : List Ax) (LA : Option Addr) (lc : Nat) (l : List Lt) (cash : Int) (w : World) (ha : asl.length ≤ 100000) (hl : l.length ≤ 100000) (ho : OkM asl) (hp6 : ∀ g ∈ asl, In64 g.price) (hq6 : ∀ x ∈ l, In64 x.qty) (hc6 : In64 cash) (hs : Sl w A (rc Ax.cells asl)) (hls : Sl w LA (rc Lt.cells l)) :
    Calls Tryz.prog 19 #[.slice A asl.length cap, .slice LA l.length lc, .int .i64 cash] w fun e w' => e = .returned (.tuple #[.int .i64 (covR true asl l cash).1, .int .i64 (covR true asl l cash).2]) ∧ Below w.heap.size w w' := by
  have HC := Lib.hid (csum_count A cap asl LA lc l cash w ha hl ho hp6 hq6 hc6 hs hls)
  generalize covR true asl l cash = R at *
  obtain ⟨r1, r2⟩ := R
  simp only at HC ⊢
  clear hs hls hp6 hq6
  go_enter Tryz.func19, Tryz.ntmps19
  go_wp2_with fail
  refine HC.out.mono ?_
  rintro e w1 ⟨rfl, hb⟩
  go_wp2_with fail
  go_ret2
  exact ⟨rfl, hb⟩
theorem cworth_any (A : Option Addr) (cap : Nat) (asl : List Ax) (LA : Option Addr) (lc : Nat) (l : List Lt) (w : World) (ha : asl.length ≤ 100000) (hl : l.length ≤ 100000) (ho : OkM asl) (hp6 : ∀ g ∈ asl, In64 g.price) (hq6 : ∀ x ∈ l, In64 x.qty) (hs : Sl w A (rc Ax.cells asl)) (hls : Sl w LA (rc Lt.cells l)) :
    Calls Tryz.prog 20 #[.slice A asl.length cap, .slice LA l.length lc] w fun e w' => e = .returned (.tuple #[.int .i64 (covR false asl l 0).1, .int .i64 (covR false asl l 0).2]) ∧ Below w.heap.size w w' := by
  have HC := Lib.hid (csum_worth A cap asl LA lc l 0 w ha hl ho hp6 hq6 (by unfold In64; omega) hs hls)
  generalize covR false asl l 0 = R at *
  obtain ⟨r1, r2⟩ := R
  simp only at HC ⊢
  clear hs hls hp6 hq6
  go_enter Tryz.func20, Tryz.ntmps20
  go_wp2_with fail
  refine HC.out.mono ?_
  rintro e w1 ⟨rfl, hb⟩
  go_wp2_with fail
  go_ret2
  exact ⟨rfl, hb⟩
end
section
structure Hd where
  (ac : Int) (cl : Int) (lt : Option Addr) (ltL ltC : Nat)
deriving DecidableEq
def Hd.cells (g : Hd) : List Value := [.int .i64 g.ac, .int .i64 g.cl, .slice g.lt g.ltL g.ltC]
def Hd.val (g : Hd) : Value := .agg #[.int .i64 g.ac, .int .i64 g.cl, .slice g.lt g.ltL g.ltC]
def Hd.zero : Hd := ⟨0, 0, none, 0, 0⟩
theorem Hd.len (g : Hd) : g.cells.length = 3 := rfl
theorem Hd.one (g : Hd) : ∀ u ∈ g.cells, u.oneCell' = true := by
  intro u hu
  simp only [Hd.cells, List.mem_cons, List.not_mem_nil, or_false] at hu
  rcases hu with h | h | h <;> subst h <;> rfl
def Hd.at (g : Hd) (w : World) (b o : Nat) : Prop :=
  w.cell? ⟨b, o, none⟩ = some (.int .i64 g.ac) ∧ w.cell? ⟨b, o + 1, none⟩ = some (.int .i64 g.cl) ∧ w.cell? ⟨b, o + 2, none⟩ = some (.slice g.lt g.ltL g.ltC)
theorem Hd.at_of {w : World} {b o : Nat} {g : Hd} (h : ∀ j u, g.cells[j]? = some u → w.cell? ⟨b, o + j, none⟩ = some u) : g.at w b o :=
  ⟨h 0 _ rfl, h 1 _ rfl, h 2 _ rfl⟩
theorem Hd.at_keep {w w' : World} {b o : Nat} {g : Hd} (h : g.at w b o) (k : ∀ i, w'.cell? ⟨b, i, none⟩ = w.cell? ⟨b, i, none⟩) : g.at w' b o := by
  unfold Hd.at at *
  simp only [k]
  exact h
theorem Sl.hd {w : World} {A : Option Addr} {l : List Hd} (h : Sl w A (rc Hd.cells l)) {k : Nat} (hk : k < l.length) : ∃ b o, A = some ⟨b, o, none⟩ ∧ b < w.heap.size ∧ l[k].at w b (o + k * 3) := by
  obtain ⟨b, o, hA, hb, hc⟩ := Sl.elem (m := 3) Hd.len (by decide) h hk
  exact ⟨b, o, hA, hb, Hd.at_of hc⟩
theorem EHd : Elem Tryz.prog 26 98 3 40 := Elem.mk' (z := .agg #[.int .i64 0, .int .i64 0, .slice none 0 0]) (by kernel_rfl) (by kernel_rfl) (by decide) (by decide)
def Hd.Tells (F : Nat) (caps : Array Value) (p : Hd → Bool) (B : Nat) (w : World) : Prop :=
  ∀ (g : Hd) (W : World), Below B w W → Calls Tryz.prog F (#[g.val] ++ caps) W fun e w' => e = .returned (.bool (p g)) ∧ Below W.heap.size W w'
theorem Hd.Tells.below {F : Nat} {caps : Array Value} {p : Hd → Bool} {B : Nat} {w w1 : World} (h : Hd.Tells F caps p B w) (hb : Below B w w1) {C : Nat} (hC : B ≤ C) : Hd.Tells F caps p C w1 :=
  fun g W hW => h g W (hb.trans (hW.mono hC))
theorem index_hd (A : Option Addr) (cap : Nat) (l : List Hd) (F : Nat) (caps : Array Value) (p : Hd → Bool) (w : World) (hl : l.length ≤ 1000000) (hs : Sl w A (rc Hd.cells l)) (hF : Ent Tryz.prog F) (hp : Hd.Tells F caps p w.heap.size w) :
    Calls Tryz.prog 99 #[.slice A l.length cap, .func (.func F) #[] caps] w fun e w' => e = .returned (.int .i64 (atL p l)) ∧ Below w.heap.size w w' := by
  go_enter Tryz.func99, Tryz.ntmps99
  go_wp2
  go_loopw [8] (fun i wr => ∃ k : Nat, k ≤ l.length ∧ i = .int .i64 k ∧ (∀ j, (hj : j < l.length) → j < k → p l[j] = false) ∧ Below w.heap.size w wr) (fun i _ => l.length - (intOf i).toNat)
  case atStart => exact ⟨0, by omega, rfl, fun j hj h => absurd h (by omega), Below.refl _ _⟩
  case round =>
    obtain ⟨k, hk, rfl, hno, hB⟩ := hrel
    by_cases hlt2 : k < l.length
    · obtain ⟨b, o, rfl, hbw, hg⟩ := hs.hd hlt2
      have hg1 : l[k].at wr b (o + k * 3) := Hd.at_keep (w := w) hg fun i => hB.cell (p := ⟨b, i, none⟩) hbw
      obtain ⟨g0, g1, g2⟩ := hg1
      have hbr : b < wr.heap.size := Nat.lt_of_lt_of_le hbw hB.size
      have step := hp l[k] wr hB
      cases hq : p l[k] with
      | true =>
        have HQ := Lib.hid hq
        go_wp2_with fail
        rw [hF, Oper.upon_enter]
        refine step.mono ?_
        rintro e w1 ⟨rfl, hb1⟩
        have hB1 := since_step hB hb1
        clear hb1
        rw [HQ.out]
        go_wp2
        go_ret
        exact ⟨retI (atL_some hlt2 (fun j hj => hno j (by omega) hj) HQ.out).symm, hB1⟩
      | false =>
        have HQ := Lib.hid hq
        go_wp2_with fail
        rw [hF, Oper.upon_enter]
        refine step.mono ?_
        rintro e w1 ⟨rfl, hb1⟩
        have hB1 := since_step hB hb1
        clear hb1
        rw [HQ.out]
        go_wp2
        go_roundw
        case rel =>
          refine ⟨k + 1, by omega, by go_num, fun j hj hjk => ?_, hB1⟩
          rcases Nat.lt_or_ge j k with h | h
          · exact hno j hj h
          · obtain rfl : j = k := by omega
            exact HQ.out
        case measure => simp [intOf]; omega
    · go_wp2
      go_ret
      exact ⟨retI (atL_none fun j hj => hno j hj (by omega)).symm, hB⟩
end
end Go.Proofs.YtmjndpkfhdoljaaGreat
