import Derived.Test.YtahdmomadbbhoaaGreatDk36
import Derived.Test.YtahdmomadbbhoaaGreatDk37
section
namespace Go.Proofs.YtahdmomadbbhoaaGreat
open Go.ChangeShapes Go.WideShapes Go.ChangeAt Go.RowKit
open Go.Maps (Keyed IsMap)
set_option linter.unusedVariables false
set_option linter.unusedSimpArgs false

def Fw.in_ (x : Fw) : Prop := In64 x.ac ∧ In64 x.cl ∧ In64 x.amt
theorem sumU_in {l : List Fw} (h : ∀ x ∈ l, Fw.in_ x) (a c : Int) : All64 ((l.filter (unF a c)).map Fw.amt) := by
  intro z hz
  obtain ⟨x, hx, rfl⟩ := List.mem_map.1 hz
  exact (h x ((List.mem_filter.1 hx).1)).2.2
theorem sumU_128 {l : List Fw} (h : ∀ x ∈ l, Fw.in_ x) (hl : l.length ≤ 900000) (a c : Int) : In128 (sumU l a c) := by
  refine sum64_128 ?_ (sumU_in h a c)
  rw [List.length_map]
  have := List.length_filter_le (unF a c) l
  omega
theorem own_ne_map {P : Program} {k : TypeId} {R : Value → Option (DataW Unit × List MemPlace)} {w : World} {b n : Nat} {D : DataW Unit} (h : w.ownsMap P k R b n D) {B e s m c : Nat} {A : Option Addr} {xs : List Value} (ho : w.ownsRow B e s (.slice A m c) m xs) : (Value.slice A m c).ownBlock = none ∨ (Value.slice A m c).ownBlock ≠ some b := by
  obtain ⟨es, clock, hb, _⟩ := h
  rcases ho.2 with ⟨hv, _⟩ | ⟨g', cap, cur, hv, _, hg, _⟩
  · rw [hv]; exact .inl rfl
  · right
    rw [hv]
    simp only [Value.ownBlock, ne_eq, Option.some.injEq]
    rintro rfl
    rw [hg] at hb; cases hb
set_option maxHeartbeats 16000000 in
set_option maxRecDepth 100000 in
theorem ppay_any (A A2 : Option Addr) (cap cap2 : Nat) (l fs : List Fw) (w : World) (hl : l.length ≤ 50000) (hl2 : fs.length ≤ 50000) (hin : ∀ x ∈ l ++ fs, Fw.in_ x) (hs : Sl w A (rc Fw.cells l)) (hs2 : Sl w A2 (rc Fw.cells fs)) :
    Calls Tryz.prog 66 #[.slice A l.length cap, .slice A2 fs.length cap2] w fun e w' => PRes w' e (payR l fs) ∧ Below w.heap.size w w' := by
  have HIS := Lib.hid (pis_any A cap l w (by omega) hs)
  cases his : isF l with
  | false =>
    have HR : Hid (payR l fs = (3, [])) := Lib.hid (by rw [payR, if_pos his])
    rw [his] at HIS
    clear his
    go_enter Tryz.func66, Tryz.ntmps66
    go_wp2_with fail
    refine HIS.out.mono ?_
    rintro e z1 ⟨rfl, hb⟩
    go_wp2_with fail
    go_ret2
    rw [HR.out]
    exact ⟨PRes.nil _ _, hb⟩
  | true =>
    have HR : Hid (payR l fs = if fitsU (l ++ fs) = false then (7, []) else (0, purseOf (l ++ fs))) := Lib.hid (by rw [payR, if_neg (by rw [his]; decide)])
    rw [his] at HIS
    obtain ⟨all, hall⟩ : ∃ all, l ++ fs = all := ⟨_, rfl⟩
    have hal : all.length = l.length + fs.length := by rw [← hall, List.length_append]
    have HRA : Hid (RowS.all [(⟨A, cap, l⟩ : RowS Fw), ⟨A2, cap2, fs⟩] = all) := Lib.hid (by simp [RowS.all, hall])
    rw [hall] at hin HR
    have HIN := Lib.hid hin
    obtain ⟨RES, hRES⟩ : ∃ R, (if fitsU all = false then ((7 : Int), ([] : List Fw)) else (0, purseOf all)) = R := ⟨_, rfl⟩
    rw [hRES] at HR
    have HORD := Lib.hid (fun D b n V hn hown hD => ordered_any all D b n V hn hown hD (fun a c => sumU_128 HIN.out (by omega) a c))
    rw [hRES] at HORD
    have hal2 : all.length ≤ 100000 := by omega
    have HCN := Lib.hid (fun A' V hS hok => concat_fw A' 2 [(⟨A, cap, l⟩ : RowS Fw), ⟨A2, cap2, fs⟩] V (by simp) (by rw [HRA.out]; omega) hS hok)
    rw [HRA.out] at HCN
    rw [HR.out]
    clear his hall hin hRES hal
    simp only [List.length_cons, List.length_nil] at HCN
    have hmm := @run_makeMap Tryz.prog
    go_enter Tryz.func66, Tryz.ntmps66
    go_wp2_with fail
    refine HIS.out.mono ?_
    rintro e z1 ⟨rfl, hb⟩
    replace hs := hs.below hb
    replace hs2 := hs2.below hb
    have hown1 := World.ownsMap_made (H := Unit) z1 Tryz.prog 28 rW
    replace hs := (hs.alloc (.map #[] 0)).alloc (.cells #[.slice A l.length cap, .slice A2 fs.length cap2] 23)
    replace hs2 := (hs2.alloc (.map #[] 0)).alloc (.cells #[.slice A l.length cap, .slice A2 fs.length cap2] 23)
    have hB1 := since_alloc (since_alloc hb (.map #[] 0)) (.cells #[.slice A l.length cap, .slice A2 fs.length cap2] 23)
    have hbB := hb.size
    have hcs := Sl.new1 z1 (.map #[] 0) (rc RowS.cells [(⟨A, cap, l⟩ : RowS Fw), ⟨A2, cap2, fs⟩]) 23
    replace hown1 := hown1.alloc (.cells #[.slice A l.length cap, .slice A2 fs.length cap2] 23)
    go_wp2_with fail
    refine (HCN.out _ _ hcs (fun s hs9 => by
      rcases List.mem_cons.1 hs9 with rfl | hs9
      · exact hs
      · obtain rfl : s = ⟨A2, cap2, fs⟩ := by simpa using hs9
        exact hs2)).mono ?_
    rintro e w2 ⟨⟨A3, c3, rfl, own3⟩, hb2⟩
    have hB2 := since_step hB1 hb2
    have hown2 := hown1.kept (grown_of_below hb2) (by simp)
    replace own3 := own_base own3 hB1.size
    generalize z1.heap.size = b at *
    clear hs hs2 hcs hown1 hB1 hb2 hb HIS HCN
    go_wp2_with fail
    go_loopw [20] (fun iv wr => ∃ (k : Nat) (D : DataW Unit), k ≤ all.length ∧ iv = .int .i64 k ∧ wr.ownsMap Tryz.prog 28 rW b k D ∧ MapIs (all.take k) D ∧ wr.ownsRow w.heap.size 86 3 (.slice A3 all.length c3) all.length (rc Fw.cells all) ∧ Below w.heap.size w wr) (fun iv _ => all.length - (intOf iv).toNat)
    case atStart => exact ⟨0, _, by omega, rfl, hown2, MapIs.nil, own3, hB2⟩
    case round =>
      obtain ⟨k, D, hk, rfl, hM, hD, hO, hB⟩ := hrel
      have HD := Lib.hid hD
      clear hD own3 hown2 hB2
      by_cases hlt : k < all.length
      · have hlk : (k : Int) < (all.length : Int) := by omega
        have hgk : (0 : Int) ≤ (k : Int) := by omega
        have hks : IntKind.i64.wrap ((k : Int) + 1) = (k : Int) + 1 := IntWalk.i64_in _ (by omega)
        obtain ⟨bb, oo, rfl, hbw, hg⟩ := (Sl.of_own hO).fw hlt
        obtain ⟨q1, q2, q3⟩ := HIN.out _ (List.getElem_mem hlt)
        have HTK := Lib.hid (take_snoc all k hlt)
        generalize all[k] = v at *
        obtain ⟨va, vc, vq⟩ := v
        obtain ⟨g0, g1, g2⟩ := hg
        simp only at g0 g1 g2 q1 q2 q3
        have HW := Lib.hid (And.intro (w64_of q1) (w64_of q2))
        obtain ⟨s, hs⟩ : ∃ s, sumU (all.take k) va vc = s := ⟨_, rfl⟩
        have HST := Lib.hid (HD.out.step ⟨va, vc, vq⟩ HW.out.1 HW.out.2)
        simp only at HST
        have HS128 := Lib.hid (sumU_128 (fun x hx => HIN.out x (List.mem_of_mem_take hx)) (by rw [List.length_take]; omega) va vc : In128 (sumU (all.take k) va vc))
        have H128 : Hid (In128 (s + vq)) := Lib.hid (by
          have h := sumU_128 (fun x hx => HIN.out x (List.mem_of_mem_take hx)) (by rw [List.length_take]; omega) va vc (l := all.take (k + 1))
          have hu : unF va vc ⟨va, vc, vq⟩ = true := (unF_iff _ _ _).2 ⟨rfl, rfl⟩
          rw [HTK.out, sumU_append, sumU_cons, hu, hs] at h
          simpa [sumU] using h)
        have HAT : Hid (D.atKey (klU va vc) (dZ 0) = dZ s) := Lib.hid (by rw [HD.out.at_ va vc HW.out.1 HW.out.2, hs])
        rw [hs] at HST HS128
        have HOF := Lib.hid (fun V => wof_any vq q3 V)
        have HAD := Lib.hid (fun A' V (h : Sl V A' (wcells [s, vq])) => wadd_any A' 2 [s, vq] V (by simp) (fun x hx => by
          rcases List.mem_cons.1 hx with rfl | hx
          · exact HS128.out
          · obtain rfl : x = vq := by simpa using hx
            exact (of_in _ q3).2.2) h)
        have esum : [s, vq].sum = s + vq := by simp
        rw [esum] at HAD
        simp only [List.length_cons, List.length_nil] at HAD
        clear hs esum q1 q2 q3
        go_upto_region 7 with fail
        have hB3 := since_alloc hB (.cells #[.int .i64 va, .int .i64 vc, .int .i64 vq] 86)
        have hM3 := hM.alloc (.cells #[.int .i64 va, .int .i64 vc, .int .i64 vq] 86)
        have hO3 := hO.alloc (.cells #[.int .i64 va, .int .i64 vc, .int .i64 vq] 86)
        have hX3 := Bk.new wr #[.int .i64 va, .int .i64 vc, .int .i64 vq] 86
        generalize hwx : wr.heap.size = wx at *
        generalize hw4 : wr.alloc (.cells #[.int .i64 va, .int .i64 vc, .int .i64 vq] 86) = w4 at *
        clear hw4 hwx hB hM hO g0 g1 g2 hbw
        have HB4 : Hid (∀ V, Below w4.heap.size w4 V → Below w.heap.size w V) := Lib.hid fun V h => since_step hB3 h
        have HM4 : Hid (∀ V, Below w4.heap.size w4 V → V.ownsMap Tryz.prog 28 rW b k D) := Lib.hid fun V h => hM3.kept (grown_of_below h) (by simp)
        have HO4 : Hid (∀ V, Below w4.heap.size w4 V → V.ownsRow w.heap.size 86 3 (.slice (some ⟨bb, oo, none⟩) all.length c3) all.length (rc Fw.cells all)) := Lib.hid fun V h => own_below hO3 h
        have HBX : Hid (∀ V, Below w4.heap.size w4 V → Bk V wx #[.int .i64 va, .int .i64 vc, .int .i64 vq]) := Lib.hid fun V h => hX3.below h
        have HLK : Hid (∀ V, Below w4.heap.size w4 V → (Instr.lookup 146 (.map (some b)) (.agg #[.int .i64 va, .int .i64 vc]) false).run Tryz.prog V = .ok (.agg #[.int .i64 (hiN s), .int .u64 (loN s)]) V) := Lib.hid fun V h => by
          obtain ⟨v, ps, h1, h2⟩ := (HM4.out V h).lookup keyed Tryz.underlying146 (z := .agg #[.int .i64 0, .int .u64 0]) (zd := dZ 0) (zp := []) (by kernel_rfl) rfl (keyU HW.out.1 HW.out.2)
          rw [HAT.out] at h2
          obtain ⟨x, rfl, h3⟩ := rW_inv h2
          obtain ⟨x1, x2⟩ := x
          simp only [Prod.mk.injEq] at h3
          obtain ⟨e1, e2⟩ := dW_inj h3.1
          rw [e1, e2]
          exact h1
        clear hB3 hM3 hO3 hX3
        go_wp2_with fail
        refine wp_region_held_drew (S := (fun V => Below w4.heap.size w4 V)) (by kernel_rfl) (by exact (Below.refl _ _).drew) (fun hHeld => ?_)
        refine wpAnyH_take (i := 0) (oi := { dst := some 25, op := _, type := _, pos := _, after := _, guard := _ }) (v := ?_) rfl (by kernel_rfl) (by kernel_rfl) (by kernel_rfl) (fun _ _ _ h => h) (Or.inl ⟨by rfl, ?_⟩) hHeld ?_
        rotate_left
        · (intro w hSw; obtain ⟨lk, ck⟩ := HBX.out _ hSw; have k0 := ck 0; have k1 := ck 1; have k2 := ck 2; simp at k0 k1 k2; clear ck; have hlk := HLK.out _ hSw; go_simp <;> with_reducible rfl)
        try simp only [Act.put, List.setIfInBounds_toArray, List.set_cons_zero, List.set_cons_succ]
        refine wpAnyH_take (i := 1) (oi := { dst := some 26, op := _, type := _, pos := _, after := _, guard := _ }) (v := ?_) rfl (by kernel_rfl) (by kernel_rfl) (by kernel_rfl) (fun _ _ _ h => h) (Or.inl ⟨by rfl, ?_⟩) hHeld ?_
        rotate_left
        · (intro w hSw; obtain ⟨lk, ck⟩ := HBX.out _ hSw; have k0 := ck 0; have k1 := ck 1; have k2 := ck 2; simp at k0 k1 k2; clear ck; have hlk := HLK.out _ hSw; go_simp <;> with_reducible rfl)
        try simp only [Act.put, List.setIfInBounds_toArray, List.set_cons_zero, List.set_cons_succ]
        refine wpAnyH_take (i := 2) (oi := { dst := some 27, op := _, type := _, pos := _, after := _, guard := _ }) (v := ?_) rfl (by kernel_rfl) (by kernel_rfl) (by kernel_rfl) (fun _ _ _ h => h) (Or.inl ⟨by rfl, ?_⟩) hHeld ?_
        rotate_left
        · (intro w hSw; obtain ⟨lk, ck⟩ := HBX.out _ hSw; have k0 := ck 0; have k1 := ck 1; have k2 := ck 2; simp at k0 k1 k2; clear ck; have hlk := HLK.out _ hSw; go_simp <;> with_reducible rfl)
        try simp only [Act.put, List.setIfInBounds_toArray, List.set_cons_zero, List.set_cons_succ]
        refine wpAnyH_take (i := 3) (oi := { dst := some 28, op := _, type := _, pos := _, after := _, guard := _ }) (v := ?_) rfl (by kernel_rfl) (by kernel_rfl) (by kernel_rfl) (fun _ _ _ h => h) (Or.inl ⟨by rfl, ?_⟩) hHeld ?_
        rotate_left
        · (intro w hSw; obtain ⟨lk, ck⟩ := HBX.out _ hSw; have k0 := ck 0; have k1 := ck 1; have k2 := ck 2; simp at k0 k1 k2; clear ck; have hlk := HLK.out _ hSw; go_simp <;> with_reducible rfl)
        try simp only [Act.put, List.setIfInBounds_toArray, List.set_cons_zero, List.set_cons_succ]
        refine wpAnyH_take (i := 4) (oi := { dst := some 29, op := _, type := _, pos := _, after := _, guard := _ }) (v := ?_) rfl (by kernel_rfl) (by kernel_rfl) (by kernel_rfl) (fun _ _ _ h => h) (Or.inl ⟨by rfl, ?_⟩) hHeld ?_
        rotate_left
        · (intro w hSw; obtain ⟨lk, ck⟩ := HBX.out _ hSw; have k0 := ck 0; have k1 := ck 1; have k2 := ck 2; simp at k0 k1 k2; clear ck; have hlk := HLK.out _ hSw; go_simp <;> with_reducible rfl)
        try simp only [Act.put, List.setIfInBounds_toArray, List.set_cons_zero, List.set_cons_succ]
        refine wpAnyH_take (i := 5) (oi := { dst := some 30, op := _, type := _, pos := _, after := _, guard := _ }) (v := ?_) rfl (by kernel_rfl) (by kernel_rfl) (by kernel_rfl) (fun _ _ _ h => h) (Or.inl ⟨by rfl, ?_⟩) hHeld ?_
        rotate_left
        · (intro w hSw; obtain ⟨lk, ck⟩ := HBX.out _ hSw; have k0 := ck 0; have k1 := ck 1; have k2 := ck 2; simp at k0 k1 k2; clear ck; have hlk := HLK.out _ hSw; go_simp <;> with_reducible rfl)
        try simp only [Act.put, List.setIfInBounds_toArray, List.set_cons_zero, List.set_cons_succ]
        refine wpAnyH_ready (rs := [6, 12]) (by kernel_rfl) (by simp) ?_
        refine AllReadyH.cons (o := { dst := some 31, op := _, type := _, pos := _, after := _, guard := _ }) rfl (fun K hK => ?_) (AllReadyH.cons (o := { dst := some 9, op := _, type := _, pos := _, after := _, guard := _ }) rfl (fun K hK => ?_) AllReadyH.nil)
        · go_simp
          refine (HOF.out _).mono ?_
          rintro e u6 ⟨rfl, hk6⟩
          have hKeep := since_step hHeld hk6
          go_wp2_with fail
          refine hK.out _ _ (by (try dsimp only); exact hKeep) (fun hHeld => ?_)
          clear hK K hKeep
          try simp only [Act.put, List.setIfInBounds_toArray, List.set_cons_zero, List.set_cons_succ]
          refine wpAnyH_ready (rs := [7, 12]) (by kernel_rfl) (by simp) ?_
          refine AllReadyH.cons (o := { dst := some 32, op := _, type := _, pos := _, after := _, guard := _ }) rfl (fun K hK => ?_) (AllReadyH.cons (o := { dst := some 9, op := _, type := _, pos := _, after := _, guard := _ }) rfl (fun K hK => ?_) AllReadyH.nil)
          · have hHd := hHeld
            obtain ⟨lk, ck⟩ := HBX.out _ hHd; have k0 := ck 0; have k1 := ck 1; have k2 := ck 2; simp at k0 k1 k2; clear ck; have hlk := HLK.out _ hHd
            have hKeep := since_alloc hHeld (.cells #[.int .i64 (hiN s), .int .u64 (loN s), .int .i64 (hiN vq), .int .u64 (loN vq)] 56)
            have HS7 := Sl.new_ u6 (wcells [s, vq]) 56
            skip
            go_simp
            refine hK.out _ _ (by (try dsimp only); exact hKeep) (fun hHeld => ?_)
            clear hK K hKeep
            try simp only [Act.put, List.setIfInBounds_toArray, List.set_cons_zero, List.set_cons_succ]
            refine wpAnyH_ready (rs := [8, 12]) (by kernel_rfl) (by simp) ?_
            refine AllReadyH.cons (o := { dst := some 33, op := _, type := _, pos := _, after := _, guard := _ }) rfl (fun K hK => ?_) (AllReadyH.cons (o := { dst := some 9, op := _, type := _, pos := _, after := _, guard := _ }) rfl (fun K hK => ?_) AllReadyH.nil)
            · go_simp
              refine (HAD.out _ _ HS7).mono ?_
              rw [wideE_yes H128.out]
              rintro e u8 ⟨rfl, hk8⟩
              have hKeep := since_step hHeld hk8
              go_wp2_with fail
              refine hK.out _ _ (by (try dsimp only); exact hKeep) (fun hHeld => ?_)
              clear hK K hKeep
              try simp only [Act.put, List.setIfInBounds_toArray, List.set_cons_zero, List.set_cons_succ]
              refine wpAnyH_take (i := 9) (oi := { dst := some 24, op := _, type := _, pos := _, after := _, guard := _ }) (v := ?_) rfl (by kernel_rfl) (by kernel_rfl) (by kernel_rfl) (fun _ _ _ h => h) (Or.inl ⟨by rfl, ?_⟩) hHeld ?_
              rotate_left
              · (intro w hSw; obtain ⟨lk, ck⟩ := HBX.out _ hSw; have k0 := ck 0; have k1 := ck 1; have k2 := ck 2; simp at k0 k1 k2; clear ck; have hlk := HLK.out _ hSw; go_simp <;> with_reducible rfl)
              try simp only [Act.put, List.setIfInBounds_toArray, List.set_cons_zero, List.set_cons_succ]
              refine wpAnyH_take (i := 10) (oi := { dst := some 34, op := _, type := _, pos := _, after := _, guard := _ }) (v := ?_) rfl (by kernel_rfl) (by kernel_rfl) (by kernel_rfl) (fun _ _ _ h => h) (Or.inl ⟨by rfl, ?_⟩) hHeld ?_
              rotate_left
              · (intro w hSw; obtain ⟨lk, ck⟩ := HBX.out _ hSw; have k0 := ck 0; have k1 := ck 1; have k2 := ck 2; simp at k0 k1 k2; clear ck; have hlk := HLK.out _ hSw; go_simp <;> with_reducible rfl)
              try simp only [Act.put, List.setIfInBounds_toArray, List.set_cons_zero, List.set_cons_succ]
              refine wpAnyH_take (i := 11) (oi := { dst := some 35, op := _, type := _, pos := _, after := _, guard := _ }) (v := ?_) rfl (by kernel_rfl) (by kernel_rfl) (by kernel_rfl) (fun _ _ _ h => h) (Or.inl ⟨by rfl, ?_⟩) hHeld ?_
              rotate_left
              · (intro w hSw; obtain ⟨lk, ck⟩ := HBX.out _ hSw; have k0 := ck 0; have k1 := ck 1; have k2 := ck 2; simp at k0 k1 k2; clear ck; have hlk := HLK.out _ hSw; go_simp <;> with_reducible rfl)
              try simp only [Act.put, List.setIfInBounds_toArray, List.set_cons_zero, List.set_cons_succ]
              refine wpAnyH_ready (rs := [12]) (by kernel_rfl) (by simp) ?_
              refine AllReadyH.cons (o := { dst := some 9, op := _, type := _, pos := _, after := _, guard := _ }) rfl (fun K hK => ?_) AllReadyH.nil
              have hHd := hHeld
              obtain ⟨lk, ck⟩ := HBX.out _ hHd; have k0 := ck 0; have k1 := ck 1; have k2 := ck 2; simp at k0 k1 k2; clear ck; have hlk := HLK.out _ hHd
              have hgs := hHeld.size
              have HGS := Lib.hid hgs
              have hHp := hHeld
              have hKeep := since_alloc hHeld (.cells #[.int .i64 0, .int .u64 0] 56)
              have G9 := T2.new u8 0 0 56
              skip
              go_simp
              refine hK.out _ _ (by (try dsimp only); exact hKeep) (fun hHeld => ?_)
              clear hK K hKeep
              try simp only [Act.put, List.setIfInBounds_toArray, List.set_cons_zero, List.set_cons_succ]
              refine wpAnyH_ready (rs := [13]) (by kernel_rfl) (by simp) ?_
              refine AllReadyH.cons (o := { dst := none, op := _, type := _, pos := _, after := _, guard := _ }) rfl (fun K hK => ?_) AllReadyH.nil
              have hHd := hHeld
              obtain ⟨lk, ck⟩ := HBX.out _ hHd; have k0 := ck 0; have k1 := ck 1; have k2 := ck 2; simp at k0 k1 k2; clear ck; have hlk := HLK.out _ hHd
              have hKeep := since_alloc hHp (.cells #[.int .i64 (hiN (s + vq)), .int .u64 (loN (s + vq))] 56)
              have G9 := T2.new u8 (hiN (s + vq)) (loN (s + vq)) 56
              skip
              go_simp
              refine hK.out _ _ (by (try dsimp only); exact hKeep) (fun hHeld => ?_)
              clear hK K hKeep
              try simp only [Act.put, List.setIfInBounds_toArray, List.set_cons_zero, List.set_cons_succ]
              refine wpAnyH_take (i := 14) (oi := { dst := some 10, op := _, type := _, pos := _, after := _, guard := _ }) (v := ?_) rfl (by kernel_rfl) (by kernel_rfl) (by kernel_rfl) (fun _ _ _ h => h) (Or.inl ⟨by rfl, ?_⟩) hHeld ?_
              rotate_left
              · (intro w hSw; obtain ⟨lk, ck⟩ := HBX.out _ hSw; have k0 := ck 0; have k1 := ck 1; have k2 := ck 2; simp at k0 k1 k2; clear ck; have hlk := HLK.out _ hSw; go_simp <;> with_reducible rfl)
              try simp only [Act.put, List.setIfInBounds_toArray, List.set_cons_zero, List.set_cons_succ]
              refine wpAnyH_done (by kernel_rfl) ?_ _
              clear hHp
              generalize hFW : (u8.alloc (.cells #[.int .i64 (hiN (s + vq)), .int .u64 (loN (s + vq))] 56)) = FW at *
              obtain ⟨g0, g1, g2, f1, f2⟩ := id G9
              have hM4 := HM4.out _ hHeld
              have hO4 := HO4.out _ hHeld
              obtain ⟨lk, ck⟩ := HBX.out _ hHeld
              have k0 := ck 0
              have k1 := ck 1
              have k2 := ck 2
              simp at k0 k1 k2
              have hBf := HB4.out _ hHeld
              have hszf := hBf.size
              clear ck hFW
              go_wp2_with (first
                | (at_mapUpdate; refine wpList_mapUpdate_own _ rfl _ _ _ 146 rfl 28 56 keyed Tryz.underlying146 rW b k D rfl hM4 (by unfold maxLen; omega) _ _ (klU va vc) rfl rfl (keyU HW.out.1 HW.out.2) (dZ (s + vq)) [] rfl ?_; intro w6 hown6 hg6)
                | fail)
              have hO6 := hO4.kept hg6 (own_ne_map hM4 hO4)
              have hB6 := hBf.trans (below_of_grown hg6 hszf (fun j hj => by cases hj; exact hbB))
              go_roundw
              case rel => exact ⟨k + 1, _, by omega, by go_num, hown6, by rw [HTK.out]; exact HST.out, hO6, hB6⟩
              case measure => simp [intOf]; omega
            · have hHd := hHeld
              obtain ⟨lk, ck⟩ := HBX.out _ hHd; have k0 := ck 0; have k1 := ck 1; have k2 := ck 2; simp at k0 k1 k2; clear ck; have hlk := HLK.out _ hHd
              have hgs := hHeld.size
              rw [World.size_alloc] at hgs
              have HGS := Lib.hid hgs
              have hHp := hHeld
              have hKeep := since_alloc hHeld (.cells #[.int .i64 0, .int .u64 0] 56)
              have G9 := T2.new (u6.alloc (.cells #[.int .i64 (hiN s), .int .u64 (loN s), .int .i64 (hiN vq), .int .u64 (loN vq)] 56)) 0 0 56
              rw [World.size_alloc] at G9
              have HS7 := HS7.alloc (.cells #[.int .i64 0, .int .u64 0] 56)
              skip
              go_simp
              refine hK.out _ _ (by (try dsimp only); exact hKeep) (fun hHeld => ?_)
              clear hK K hKeep
              try simp only [Act.put, List.setIfInBounds_toArray, List.set_cons_zero, List.set_cons_succ]
              refine wpAnyH_ready (rs := [8]) (by kernel_rfl) (by simp) ?_
              refine AllReadyH.cons (o := { dst := some 33, op := _, type := _, pos := _, after := _, guard := _ }) rfl (fun K hK => ?_) AllReadyH.nil
              go_simp
              refine (HAD.out _ _ HS7).mono ?_
              rw [wideE_yes H128.out]
              rintro e u8 ⟨rfl, hk8⟩
              have hKeep := since_step hHeld hk8
              have G9 := G9.below hk8
              go_wp2_with fail
              refine hK.out _ _ (by (try dsimp only); exact hKeep) (fun hHeld => ?_)
              clear hK K hKeep
              try simp only [Act.put, List.setIfInBounds_toArray, List.set_cons_zero, List.set_cons_succ]
              refine wpAnyH_take (i := 9) (oi := { dst := some 24, op := _, type := _, pos := _, after := _, guard := _ }) (v := ?_) rfl (by kernel_rfl) (by kernel_rfl) (by kernel_rfl) (fun _ _ _ h => h) (Or.inl ⟨by rfl, ?_⟩) hHeld ?_
              rotate_left
              · (intro w hSw; obtain ⟨lk, ck⟩ := HBX.out _ hSw; have k0 := ck 0; have k1 := ck 1; have k2 := ck 2; simp at k0 k1 k2; clear ck; have hlk := HLK.out _ hSw; go_simp <;> with_reducible rfl)
              try simp only [Act.put, List.setIfInBounds_toArray, List.set_cons_zero, List.set_cons_succ]
              refine wpAnyH_take (i := 10) (oi := { dst := some 34, op := _, type := _, pos := _, after := _, guard := _ }) (v := ?_) rfl (by kernel_rfl) (by kernel_rfl) (by kernel_rfl) (fun _ _ _ h => h) (Or.inl ⟨by rfl, ?_⟩) hHeld ?_
              rotate_left
              · (intro w hSw; obtain ⟨lk, ck⟩ := HBX.out _ hSw; have k0 := ck 0; have k1 := ck 1; have k2 := ck 2; simp at k0 k1 k2; clear ck; have hlk := HLK.out _ hSw; go_simp <;> with_reducible rfl)
              try simp only [Act.put, List.setIfInBounds_toArray, List.set_cons_zero, List.set_cons_succ]
              refine wpAnyH_take (i := 11) (oi := { dst := some 35, op := _, type := _, pos := _, after := _, guard := _ }) (v := ?_) rfl (by kernel_rfl) (by kernel_rfl) (by kernel_rfl) (fun _ _ _ h => h) (Or.inl ⟨by rfl, ?_⟩) hHeld ?_
              rotate_left
              · (intro w hSw; obtain ⟨lk, ck⟩ := HBX.out _ hSw; have k0 := ck 0; have k1 := ck 1; have k2 := ck 2; simp at k0 k1 k2; clear ck; have hlk := HLK.out _ hSw; go_simp <;> with_reducible rfl)
              try simp only [Act.put, List.setIfInBounds_toArray, List.set_cons_zero, List.set_cons_succ]
              refine wpAnyH_ready (rs := [13]) (by kernel_rfl) (by simp) ?_
              refine AllReadyH.cons (o := { dst := none, op := _, type := _, pos := _, after := _, guard := _ }) rfl (fun K hK => ?_) AllReadyH.nil
              have hHd := hHeld
              obtain ⟨lk, ck⟩ := HBX.out _ hHd; have k0 := ck 0; have k1 := ck 1; have k2 := ck 2; simp at k0 k1 k2; clear ck; have hlk := HLK.out _ hHd
              obtain ⟨g0, g1, g2, f1, f2⟩ := id G9
              have hKeep := Below.setCell (Below.setCell hHeld (p := ⟨u6.heap.size + 1, 0, none⟩) HGS.out (.int .i64 (hiN (s + vq)))) (p := ⟨u6.heap.size + 1, 1, none⟩) HGS.out (.int .u64 (loN (s + vq)))
              have G9 := T2.set2 G9 (hiN (s + vq)) (loN (s + vq))
              skip
              go_simp
              refine hK.out _ _ (by (try dsimp only); exact hKeep) (fun hHeld => ?_)
              clear hK K hKeep
              try simp only [Act.put, List.setIfInBounds_toArray, List.set_cons_zero, List.set_cons_succ]
              refine wpAnyH_take (i := 14) (oi := { dst := some 10, op := _, type := _, pos := _, after := _, guard := _ }) (v := ?_) rfl (by kernel_rfl) (by kernel_rfl) (by kernel_rfl) (fun _ _ _ h => h) (Or.inl ⟨by rfl, ?_⟩) hHeld ?_
              rotate_left
              · (intro w hSw; obtain ⟨lk, ck⟩ := HBX.out _ hSw; have k0 := ck 0; have k1 := ck 1; have k2 := ck 2; simp at k0 k1 k2; clear ck; have hlk := HLK.out _ hSw; go_simp <;> with_reducible rfl)
              try simp only [Act.put, List.setIfInBounds_toArray, List.set_cons_zero, List.set_cons_succ]
              refine wpAnyH_done (by kernel_rfl) ?_ _
              clear hHp
              generalize hFW : ((u8.setCell ⟨u6.heap.size + 1, 0, none⟩ (.int .i64 (hiN (s + vq)))).setCell ⟨u6.heap.size + 1, 1, none⟩ (.int .u64 (loN (s + vq)))) = FW at *
              obtain ⟨g0, g1, g2, f1, f2⟩ := id G9
              have hM4 := HM4.out _ hHeld
              have hO4 := HO4.out _ hHeld
              obtain ⟨lk, ck⟩ := HBX.out _ hHeld
              have k0 := ck 0
              have k1 := ck 1
              have k2 := ck 2
              simp at k0 k1 k2
              have hBf := HB4.out _ hHeld
              have hszf := hBf.size
              clear ck hFW
              go_wp2_with (first
                | (at_mapUpdate; refine wpList_mapUpdate_own _ rfl _ _ _ 146 rfl 28 56 keyed Tryz.underlying146 rW b k D rfl hM4 (by unfold maxLen; omega) _ _ (klU va vc) rfl rfl (keyU HW.out.1 HW.out.2) (dZ (s + vq)) [] rfl ?_; intro w6 hown6 hg6)
                | fail)
              have hO6 := hO4.kept hg6 (own_ne_map hM4 hO4)
              have hB6 := hBf.trans (below_of_grown hg6 hszf (fun j hj => by cases hj; exact hbB))
              go_roundw
              case rel => exact ⟨k + 1, _, by omega, by go_num, hown6, by rw [HTK.out]; exact HST.out, hO6, hB6⟩
              case measure => simp [intOf]; omega
          · have hHd := hHeld
            obtain ⟨lk, ck⟩ := HBX.out _ hHd; have k0 := ck 0; have k1 := ck 1; have k2 := ck 2; simp at k0 k1 k2; clear ck; have hlk := HLK.out _ hHd
            have hgs := hHeld.size
            have HGS := Lib.hid hgs
            have hHp := hHeld
            have hKeep := since_alloc hHeld (.cells #[.int .i64 0, .int .u64 0] 56)
            have G9 := T2.new u6 0 0 56
            skip
            go_simp
            refine hK.out _ _ (by (try dsimp only); exact hKeep) (fun hHeld => ?_)
            clear hK K hKeep
            try simp only [Act.put, List.setIfInBounds_toArray, List.set_cons_zero, List.set_cons_succ]
            refine wpAnyH_ready (rs := [7]) (by kernel_rfl) (by simp) ?_
            refine AllReadyH.cons (o := { dst := some 32, op := _, type := _, pos := _, after := _, guard := _ }) rfl (fun K hK => ?_) AllReadyH.nil
            have hHd := hHeld
            obtain ⟨lk, ck⟩ := HBX.out _ hHd; have k0 := ck 0; have k1 := ck 1; have k2 := ck 2; simp at k0 k1 k2; clear ck; have hlk := HLK.out _ hHd
            have hKeep := since_alloc hHeld (.cells #[.int .i64 (hiN s), .int .u64 (loN s), .int .i64 (hiN vq), .int .u64 (loN vq)] 56)
            have HS7 := Sl.new1 u6 (.cells #[.int .i64 0, .int .u64 0] 56) (wcells [s, vq]) 56
            have G9 := G9.alloc (.cells #[.int .i64 (hiN s), .int .u64 (loN s), .int .i64 (hiN vq), .int .u64 (loN vq)] 56)
            skip
            go_simp
            refine hK.out _ _ (by (try dsimp only); exact hKeep) (fun hHeld => ?_)
            clear hK K hKeep
            try simp only [Act.put, List.setIfInBounds_toArray, List.set_cons_zero, List.set_cons_succ]
            refine wpAnyH_ready (rs := [8]) (by kernel_rfl) (by simp) ?_
            refine AllReadyH.cons (o := { dst := some 33, op := _, type := _, pos := _, after := _, guard := _ }) rfl (fun K hK => ?_) AllReadyH.nil
            go_simp
            refine (HAD.out _ _ HS7).mono ?_
            rw [wideE_yes H128.out]
            rintro e u8 ⟨rfl, hk8⟩
            have hKeep := since_step hHeld hk8
            have G9 := G9.below hk8
            go_wp2_with fail
            refine hK.out _ _ (by (try dsimp only); exact hKeep) (fun hHeld => ?_)
            clear hK K hKeep
            try simp only [Act.put, List.setIfInBounds_toArray, List.set_cons_zero, List.set_cons_succ]
            refine wpAnyH_take (i := 9) (oi := { dst := some 24, op := _, type := _, pos := _, after := _, guard := _ }) (v := ?_) rfl (by kernel_rfl) (by kernel_rfl) (by kernel_rfl) (fun _ _ _ h => h) (Or.inl ⟨by rfl, ?_⟩) hHeld ?_
            rotate_left
            · (intro w hSw; obtain ⟨lk, ck⟩ := HBX.out _ hSw; have k0 := ck 0; have k1 := ck 1; have k2 := ck 2; simp at k0 k1 k2; clear ck; have hlk := HLK.out _ hSw; go_simp <;> with_reducible rfl)
            try simp only [Act.put, List.setIfInBounds_toArray, List.set_cons_zero, List.set_cons_succ]
            refine wpAnyH_take (i := 10) (oi := { dst := some 34, op := _, type := _, pos := _, after := _, guard := _ }) (v := ?_) rfl (by kernel_rfl) (by kernel_rfl) (by kernel_rfl) (fun _ _ _ h => h) (Or.inl ⟨by rfl, ?_⟩) hHeld ?_
            rotate_left
            · (intro w hSw; obtain ⟨lk, ck⟩ := HBX.out _ hSw; have k0 := ck 0; have k1 := ck 1; have k2 := ck 2; simp at k0 k1 k2; clear ck; have hlk := HLK.out _ hSw; go_simp <;> with_reducible rfl)
            try simp only [Act.put, List.setIfInBounds_toArray, List.set_cons_zero, List.set_cons_succ]
            refine wpAnyH_take (i := 11) (oi := { dst := some 35, op := _, type := _, pos := _, after := _, guard := _ }) (v := ?_) rfl (by kernel_rfl) (by kernel_rfl) (by kernel_rfl) (fun _ _ _ h => h) (Or.inl ⟨by rfl, ?_⟩) hHeld ?_
            rotate_left
            · (intro w hSw; obtain ⟨lk, ck⟩ := HBX.out _ hSw; have k0 := ck 0; have k1 := ck 1; have k2 := ck 2; simp at k0 k1 k2; clear ck; have hlk := HLK.out _ hSw; go_simp <;> with_reducible rfl)
            try simp only [Act.put, List.setIfInBounds_toArray, List.set_cons_zero, List.set_cons_succ]
            refine wpAnyH_ready (rs := [13]) (by kernel_rfl) (by simp) ?_
            refine AllReadyH.cons (o := { dst := none, op := _, type := _, pos := _, after := _, guard := _ }) rfl (fun K hK => ?_) AllReadyH.nil
            have hHd := hHeld
            obtain ⟨lk, ck⟩ := HBX.out _ hHd; have k0 := ck 0; have k1 := ck 1; have k2 := ck 2; simp at k0 k1 k2; clear ck; have hlk := HLK.out _ hHd
            obtain ⟨g0, g1, g2, f1, f2⟩ := id G9
            have hKeep := Below.setCell (Below.setCell hHeld (p := ⟨u6.heap.size, 0, none⟩) HGS.out (.int .i64 (hiN (s + vq)))) (p := ⟨u6.heap.size, 1, none⟩) HGS.out (.int .u64 (loN (s + vq)))
            have G9 := T2.set2 G9 (hiN (s + vq)) (loN (s + vq))
            skip
            go_simp
            refine hK.out _ _ (by (try dsimp only); exact hKeep) (fun hHeld => ?_)
            clear hK K hKeep
            try simp only [Act.put, List.setIfInBounds_toArray, List.set_cons_zero, List.set_cons_succ]
            refine wpAnyH_take (i := 14) (oi := { dst := some 10, op := _, type := _, pos := _, after := _, guard := _ }) (v := ?_) rfl (by kernel_rfl) (by kernel_rfl) (by kernel_rfl) (fun _ _ _ h => h) (Or.inl ⟨by rfl, ?_⟩) hHeld ?_
            rotate_left
            · (intro w hSw; obtain ⟨lk, ck⟩ := HBX.out _ hSw; have k0 := ck 0; have k1 := ck 1; have k2 := ck 2; simp at k0 k1 k2; clear ck; have hlk := HLK.out _ hSw; go_simp <;> with_reducible rfl)
            try simp only [Act.put, List.setIfInBounds_toArray, List.set_cons_zero, List.set_cons_succ]
            refine wpAnyH_done (by kernel_rfl) ?_ _
            clear hHp
            generalize hFW : ((u8.setCell ⟨u6.heap.size, 0, none⟩ (.int .i64 (hiN (s + vq)))).setCell ⟨u6.heap.size, 1, none⟩ (.int .u64 (loN (s + vq)))) = FW at *
            obtain ⟨g0, g1, g2, f1, f2⟩ := id G9
            have hM4 := HM4.out _ hHeld
            have hO4 := HO4.out _ hHeld
            obtain ⟨lk, ck⟩ := HBX.out _ hHeld
            have k0 := ck 0
            have k1 := ck 1
            have k2 := ck 2
            simp at k0 k1 k2
            have hBf := HB4.out _ hHeld
            have hszf := hBf.size
            clear ck hFW
            go_wp2_with (first
              | (at_mapUpdate; refine wpList_mapUpdate_own _ rfl _ _ _ 146 rfl 28 56 keyed Tryz.underlying146 rW b k D rfl hM4 (by unfold maxLen; omega) _ _ (klU va vc) rfl rfl (keyU HW.out.1 HW.out.2) (dZ (s + vq)) [] rfl ?_; intro w6 hown6 hg6)
              | fail)
            have hO6 := hO4.kept hg6 (own_ne_map hM4 hO4)
            have hB6 := hBf.trans (below_of_grown hg6 hszf (fun j hj => by cases hj; exact hbB))
            go_roundw
            case rel => exact ⟨k + 1, _, by omega, by go_num, hown6, by rw [HTK.out]; exact HST.out, hO6, hB6⟩
            case measure => simp [intOf]; omega
        · have hHd := hHeld
          obtain ⟨lk, ck⟩ := HBX.out _ hHd; have k0 := ck 0; have k1 := ck 1; have k2 := ck 2; simp at k0 k1 k2; clear ck; have hlk := HLK.out _ hHd
          have hgs := hHeld.size
          rw [World.size_drew] at hgs
          have HGS := Lib.hid hgs
          have hHp := hHeld
          have hKeep := since_alloc hHeld (.cells #[.int .i64 0, .int .u64 0] 56)
          have G9 := T2.new w4.drew 0 0 56
          rw [World.size_drew] at G9
          skip
          go_simp
          refine hK.out _ _ (by (try dsimp only); exact hKeep) (fun hHeld => ?_)
          clear hK K hKeep
          try simp only [Act.put, List.setIfInBounds_toArray, List.set_cons_zero, List.set_cons_succ]
          refine wpAnyH_ready (rs := [6]) (by kernel_rfl) (by simp) ?_
          refine AllReadyH.cons (o := { dst := some 31, op := _, type := _, pos := _, after := _, guard := _ }) rfl (fun K hK => ?_) AllReadyH.nil
          go_simp
          refine (HOF.out _).mono ?_
          rintro e u6 ⟨rfl, hk6⟩
          have hKeep := since_step hHeld hk6
          have G9 := G9.below hk6
          go_wp2_with fail
          refine hK.out _ _ (by (try dsimp only); exact hKeep) (fun hHeld => ?_)
          clear hK K hKeep
          try simp only [Act.put, List.setIfInBounds_toArray, List.set_cons_zero, List.set_cons_succ]
          refine wpAnyH_ready (rs := [7]) (by kernel_rfl) (by simp) ?_
          refine AllReadyH.cons (o := { dst := some 32, op := _, type := _, pos := _, after := _, guard := _ }) rfl (fun K hK => ?_) AllReadyH.nil
          have hHd := hHeld
          obtain ⟨lk, ck⟩ := HBX.out _ hHd; have k0 := ck 0; have k1 := ck 1; have k2 := ck 2; simp at k0 k1 k2; clear ck; have hlk := HLK.out _ hHd
          have hKeep := since_alloc hHeld (.cells #[.int .i64 (hiN s), .int .u64 (loN s), .int .i64 (hiN vq), .int .u64 (loN vq)] 56)
          have HS7 := Sl.new_ u6 (wcells [s, vq]) 56
          have G9 := G9.alloc (.cells #[.int .i64 (hiN s), .int .u64 (loN s), .int .i64 (hiN vq), .int .u64 (loN vq)] 56)
          skip
          go_simp
          refine hK.out _ _ (by (try dsimp only); exact hKeep) (fun hHeld => ?_)
          clear hK K hKeep
          try simp only [Act.put, List.setIfInBounds_toArray, List.set_cons_zero, List.set_cons_succ]
          refine wpAnyH_ready (rs := [8]) (by kernel_rfl) (by simp) ?_
          refine AllReadyH.cons (o := { dst := some 33, op := _, type := _, pos := _, after := _, guard := _ }) rfl (fun K hK => ?_) AllReadyH.nil
          go_simp
          refine (HAD.out _ _ HS7).mono ?_
          rw [wideE_yes H128.out]
          rintro e u8 ⟨rfl, hk8⟩
          have hKeep := since_step hHeld hk8
          have G9 := G9.below hk8
          go_wp2_with fail
          refine hK.out _ _ (by (try dsimp only); exact hKeep) (fun hHeld => ?_)
          clear hK K hKeep
          try simp only [Act.put, List.setIfInBounds_toArray, List.set_cons_zero, List.set_cons_succ]
          refine wpAnyH_take (i := 9) (oi := { dst := some 24, op := _, type := _, pos := _, after := _, guard := _ }) (v := ?_) rfl (by kernel_rfl) (by kernel_rfl) (by kernel_rfl) (fun _ _ _ h => h) (Or.inl ⟨by rfl, ?_⟩) hHeld ?_
          rotate_left
          · (intro w hSw; obtain ⟨lk, ck⟩ := HBX.out _ hSw; have k0 := ck 0; have k1 := ck 1; have k2 := ck 2; simp at k0 k1 k2; clear ck; have hlk := HLK.out _ hSw; go_simp <;> with_reducible rfl)
          try simp only [Act.put, List.setIfInBounds_toArray, List.set_cons_zero, List.set_cons_succ]
          refine wpAnyH_take (i := 10) (oi := { dst := some 34, op := _, type := _, pos := _, after := _, guard := _ }) (v := ?_) rfl (by kernel_rfl) (by kernel_rfl) (by kernel_rfl) (fun _ _ _ h => h) (Or.inl ⟨by rfl, ?_⟩) hHeld ?_
          rotate_left
          · (intro w hSw; obtain ⟨lk, ck⟩ := HBX.out _ hSw; have k0 := ck 0; have k1 := ck 1; have k2 := ck 2; simp at k0 k1 k2; clear ck; have hlk := HLK.out _ hSw; go_simp <;> with_reducible rfl)
          try simp only [Act.put, List.setIfInBounds_toArray, List.set_cons_zero, List.set_cons_succ]
          refine wpAnyH_take (i := 11) (oi := { dst := some 35, op := _, type := _, pos := _, after := _, guard := _ }) (v := ?_) rfl (by kernel_rfl) (by kernel_rfl) (by kernel_rfl) (fun _ _ _ h => h) (Or.inl ⟨by rfl, ?_⟩) hHeld ?_
          rotate_left
          · (intro w hSw; obtain ⟨lk, ck⟩ := HBX.out _ hSw; have k0 := ck 0; have k1 := ck 1; have k2 := ck 2; simp at k0 k1 k2; clear ck; have hlk := HLK.out _ hSw; go_simp <;> with_reducible rfl)
          try simp only [Act.put, List.setIfInBounds_toArray, List.set_cons_zero, List.set_cons_succ]
          refine wpAnyH_ready (rs := [13]) (by kernel_rfl) (by simp) ?_
          refine AllReadyH.cons (o := { dst := none, op := _, type := _, pos := _, after := _, guard := _ }) rfl (fun K hK => ?_) AllReadyH.nil
          have hHd := hHeld
          obtain ⟨lk, ck⟩ := HBX.out _ hHd; have k0 := ck 0; have k1 := ck 1; have k2 := ck 2; simp at k0 k1 k2; clear ck; have hlk := HLK.out _ hHd
          obtain ⟨g0, g1, g2, f1, f2⟩ := id G9
          have hKeep := Below.setCell (Below.setCell hHeld (p := ⟨w4.heap.size, 0, none⟩) HGS.out (.int .i64 (hiN (s + vq)))) (p := ⟨w4.heap.size, 1, none⟩) HGS.out (.int .u64 (loN (s + vq)))
          have G9 := T2.set2 G9 (hiN (s + vq)) (loN (s + vq))
          skip
          go_simp
          refine hK.out _ _ (by (try dsimp only); exact hKeep) (fun hHeld => ?_)
          clear hK K hKeep
          try simp only [Act.put, List.setIfInBounds_toArray, List.set_cons_zero, List.set_cons_succ]
          refine wpAnyH_take (i := 14) (oi := { dst := some 10, op := _, type := _, pos := _, after := _, guard := _ }) (v := ?_) rfl (by kernel_rfl) (by kernel_rfl) (by kernel_rfl) (fun _ _ _ h => h) (Or.inl ⟨by rfl, ?_⟩) hHeld ?_
          rotate_left
          · (intro w hSw; obtain ⟨lk, ck⟩ := HBX.out _ hSw; have k0 := ck 0; have k1 := ck 1; have k2 := ck 2; simp at k0 k1 k2; clear ck; have hlk := HLK.out _ hSw; go_simp <;> with_reducible rfl)
          try simp only [Act.put, List.setIfInBounds_toArray, List.set_cons_zero, List.set_cons_succ]
          refine wpAnyH_done (by kernel_rfl) ?_ _
          clear hHp
          generalize hFW : ((u8.setCell ⟨w4.heap.size, 0, none⟩ (.int .i64 (hiN (s + vq)))).setCell ⟨w4.heap.size, 1, none⟩ (.int .u64 (loN (s + vq)))) = FW at *
          obtain ⟨g0, g1, g2, f1, f2⟩ := id G9
          have hM4 := HM4.out _ hHeld
          have hO4 := HO4.out _ hHeld
          obtain ⟨lk, ck⟩ := HBX.out _ hHeld
          have k0 := ck 0
          have k1 := ck 1
          have k2 := ck 2
          simp at k0 k1 k2
          have hBf := HB4.out _ hHeld
          have hszf := hBf.size
          clear ck hFW
          go_wp2_with (first
            | (at_mapUpdate; refine wpList_mapUpdate_own _ rfl _ _ _ 146 rfl 28 56 keyed Tryz.underlying146 rW b k D rfl hM4 (by unfold maxLen; omega) _ _ (klU va vc) rfl rfl (keyU HW.out.1 HW.out.2) (dZ (s + vq)) [] rfl ?_; intro w6 hown6 hg6)
            | fail)
          have hO6 := hO4.kept hg6 (own_ne_map hM4 hO4)
          have hB6 := hBf.trans (below_of_grown hg6 hszf (fun j hj => by cases hj; exact hbB))
          go_roundw
          case rel => exact ⟨k + 1, _, by omega, by go_num, hown6, by rw [HTK.out]; exact HST.out, hO6, hB6⟩
          case measure => simp [intOf]; omega
      · obtain rfl : k = all.length := by omega
        have hD := HD.out
        rw [List.take_length] at hD
        have HOR := Lib.hid (HORD.out D b all.length wr (by omega) hM hD)
        clear hD
        go_wp2_with fail
        refine HOR.out.mono ?_
        rintro e w5 ⟨⟨A5, c5, rfl, s5⟩, hb5⟩
        have hB5 := since_step hB hb5
        go_wp2_with fail
        go_ret2
        exact ⟨⟨A5, c5, rfl, s5⟩, hB5⟩
end Go.Proofs.YtahdmomadbbhoaaGreat
end
