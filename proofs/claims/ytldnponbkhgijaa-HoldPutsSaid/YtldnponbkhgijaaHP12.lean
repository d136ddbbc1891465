import Derived.Test.YtldnponbkhgijaaHP11
import Derived.Test.YtldnponbkhgijaaHP07
section
namespace Go.Proofs.Ytldnponbkhgijaa
open Go.ChangeShapes Go.WideShapes Go.ChangeAt Go.RowKit
set_option linter.unusedVariables false
set_option linter.unusedSimpArgs false

theorem setHR_no {cs : List Hc} {a c : Int} {L : List Lt} (h : isH cs = false ∨ isLs L = false) : setHR cs a c L = (3, []) := if_pos h
theorem setHR_ok {cs : List Hc} {a c : Int} {L : List Lt} (h : isH cs = true) (h2 : isLs L = true) : setHR cs a c L = (0, withH cs a c L) := by
  unfold setHR; rw [if_neg]; simp [h, h2]
theorem mem_putL_far {ah : Hd → Hd → Bool} {B : Nat} {x : Hd} {l : List Hd} (h : ∀ g ∈ l, AtOr B g.lt) (hx : AtOr B x.lt) : ∀ g ∈ putL ah l x, AtOr B g.lt := by
  intro g hg
  rw [putL_eq] at hg
  rcases mem_putR _ _ _ hg with rfl | hg
  · exact hx
  · exact h g hg
theorem withH_nil (cs : List Hc) (a c : Int) : withH cs a c [] = cs.filter (fun g => !unH a c g) := if_pos rfl
theorem withH_some (cs : List Hc) (a c : Int) {L : List Lt} (h : L ≠ []) : withH cs a c L = putR ahH cs ⟨a, c, L⟩ := if_neg h
set_option maxHeartbeats 4000000 in
set_option maxRecDepth 100000 in
theorem hset_anyN (A : Option Addr) (cap : Nat) (l : List Hd) (cs : List Hc) (a c : Int) (LA : Option Addr) (LC : Nat) (L : List Lt) (w : World) (hl : l.length ≤ 900000) (hcl : ∀ g ∈ cs, g.L.length ≤ 900000) (hLl : L.length ≤ 900000) (hs : Sl w A (rc Hd.cells l)) (ht : HdTab w l cs) (hLs : Sl w LA (rc Lt.cells L)) :
    Calls Try.prog 69 #[.slice A l.length cap, .agg #[.int .i64 a, .int .i64 c], .slice LA L.length LC] w fun e w' => HResN l (AtOr w.heap.size) w.heap.size w' e (setHR cs a c L) ∧ Below w.heap.size w w' := by
  have hB0 := since_alloc (Below.refl _ w) (.cells #[.int .i64 a, .int .i64 c] 24)
  have hK := Bk.new w #[.int .i64 a, .int .i64 c] 24
  have HLL : Hid (cs.length ≤ 1000000) := Lib.hid (by have := ht.1; omega)
  have HIS := Lib.hid (his_any A cap l cs _ hl hcl (hs.alloc (.cells #[.int .i64 a, .int .i64 c] 24)) (ht.below hB0))
  have HSL : Hid (∀ V, Below w.heap.size w V → Sl V A (rc Hd.cells l)) := Lib.hid fun V hV => hs.below hV
  have HTB : Hid (∀ V, Below w.heap.size w V → HdTab V l cs) := Lib.hid fun V hV => ht.below hV
  have HLS : Hid (∀ V, Below w.heap.size w V → Sl V LA (rc Lt.cells L)) := Lib.hid fun V hV => hLs.below hV
  have HLI := Lib.hid (fun V h => lis_any LA LC L V (by omega) h)
  have HD := Lib.hid (fun V h1 h2 => dups_hd A cap l cs V hl hcl h1 h2)
  have HD1 := Lib.hid (fun V h => dup1_hd a c LA LC L V hLl h)
  have HDR := Lib.hid (fun A1 c1 l1 b V hl1 h1 (h2 : Bk V b #[.int .i64 a, .int .i64 c]) => drop_hd A1 c1 l1 177 #[.pointer (some ⟨b, 0, none⟩)] (unHd a c) V hl1 h1 ent_hof1 (tells_hof1 a c b _ _ h2 rfl))
  have HPU := Lib.hid (fun A1 c1 l1 A2 c2 V hl1 h1 => put_hd A1 c1 l1 ⟨a, c, A2, L.length, c2⟩ 123 #[] ahHd V hl1 h1 ent_hahead (tells_hahead _ _))
  unfold Hd.val at HPU
  simp only at HPU
  clear hs ht hLs
  cases hi : isH cs with
  | false =>
    have HR := Lib.hid (setHR_no (a := a) (c := c) (L := L) (.inl hi))
    rw [hi] at HIS
    clear hi
    go_enter Try.func69, Try.ntmps69
    go_wp2_with fail
    refine HIS.out.mono ?_
    rintro e w1 ⟨rfl, hb⟩
    have hB1 := since_step hB0 hb
    go_wp2_with fail
    go_ret2
    rw [HR.out]
    exact ⟨HResN.nil _ _ _ _ _, hB1⟩
  | true =>
    rw [hi] at HIS
    cases hj : isLs L with
    | false =>
      have HR := Lib.hid (setHR_no (a := a) (c := c) (cs := cs) (.inr hj))
      rw [hj] at HLI
      clear hi hj
      go_enter Try.func69, Try.ntmps69
      go_wp2_with fail
      refine HIS.out.mono ?_
      rintro e w1 ⟨rfl, hb⟩
      have hB1 := since_step hB0 hb
      go_wp2_with fail
      refine (HLI.out _ (HLS.out _ hB1)).mono ?_
      rintro e w2 ⟨rfl, hb⟩
      have hB1 := since_step hB1 hb
      go_wp2_with fail
      go_ret2
      rw [HR.out]
      exact ⟨HResN.nil _ _ _ _ _, hB1⟩
    | true =>
      have hR := setHR_ok (a := a) (c := c) hi hj
      rw [hj] at HLI
      clear hi hj
      cases L with
      | nil =>
        rw [withH_nil] at hR
        have HR := Lib.hid hR
        clear hR
        simp only [List.length_nil] at HLI ⊢
        go_enter Try.func69, Try.ntmps69
        go_wp2_with fail
        refine HIS.out.mono ?_
        rintro e w1 ⟨rfl, hb⟩
        have hB := since_step hB0 hb
        have hK := hK.below hb
        go_wp2_with fail
        refine (HLI.out _ (HLS.out _ hB)).mono ?_
        rintro e w2 ⟨rfl, hb⟩
        have hB := since_step hB hb
        have hK := hK.below hb
        have HK : Hid (∀ V, Below w2.heap.size w2 V → Bk V w.heap.size #[.int .i64 a, .int .i64 c]) := Lib.hid fun V hV => hK.below hV
        clear hb
        go_wp2_with fail
        refine wp_region_held_drew (S := (fun V => Below w.heap.size w V ∧ Below w2.heap.size w2 V)) (by kernel_rfl) (by exact ⟨hB.drew, (Below.refl _ _).drew⟩) (fun hHeld => ?_)
        refine wpAnyH_take (i := 0) (oi := { dst := some 19, op := _, type := _, pos := _, after := _, guard := _ }) (v := ?_) rfl (by kernel_rfl) (by kernel_rfl) (by kernel_rfl) (fun _ _ _ h => h) (Or.inl ⟨by rfl, ?_⟩) hHeld ?_
        rotate_left
        · (intro w hSw; have ck := (HK.out _ (hSw).2).2; have k0 := ck 0; have k1 := ck 1; simp at k0 k1; clear ck; go_simp <;> with_reducible rfl)
        try simp only [Act.put, List.setIfInBounds_toArray, List.set_cons_zero, List.set_cons_succ]
        refine wpAnyH_take (i := 2) (oi := { dst := some 21, op := _, type := _, pos := _, after := _, guard := _ }) (v := ?_) rfl (by kernel_rfl) (by kernel_rfl) (by kernel_rfl) (fun _ _ _ h => h) (Or.inl ⟨by rfl, ?_⟩) hHeld ?_
        rotate_left
        · (intro w hSw; have ck := (HK.out _ (hSw).2).2; have k0 := ck 0; have k1 := ck 1; simp at k0 k1; clear ck; go_simp <;> with_reducible rfl)
        try simp only [Act.put, List.setIfInBounds_toArray, List.set_cons_zero, List.set_cons_succ]
        refine wpAnyH_ready (rs := [1]) (by kernel_rfl) (by simp) ?_
        refine AllReadyH.cons (o := { dst := some 20, op := _, type := _, pos := _, after := _, guard := _ }) rfl (fun K hK => ?_) AllReadyH.nil
        go_simp
        refine (HD.out _ (HSL.out _ hHeld.1) (HTB.out _ hHeld.1)).mono ?_
        rintro e u1 ⟨⟨l1, A1, c1, rfl, ho1, hot1⟩, hk1⟩
        have hKeep := And.intro (since_step hHeld.1 hk1) (since_step hHeld.2 hk1)
        have hs1 := Sl.of_own ho1
        have ht1 := hot1.tab
        have hf1 : ∀ g ∈ l1, AtOr w.heap.size g.lt := fun g hg => (hot1.far g hg).mono hHeld.1.size
        have hl1 : l1.length ≤ 1000000 := by rw [ht1.1]; exact HLL.out
        clear ho1 hot1
        go_wp2_with fail
        refine hK.out _ _ (by (try dsimp only); exact hKeep) (fun hHeld => ?_)
        clear hK K hKeep
        try simp only [Act.put, List.setIfInBounds_toArray, List.set_cons_zero, List.set_cons_succ]
        refine wpAnyH_ready (rs := [3]) (by kernel_rfl) (by simp) ?_
        refine AllReadyH.cons (o := { dst := some 22, op := _, type := _, pos := _, after := _, guard := _ }) rfl (fun K hK => ?_) AllReadyH.nil
        go_simp
        refine (hof_any a c _).mono ?_
        rintro e u2 ⟨⟨b2, rfl, hK2⟩, hk2⟩
        have hKeep := And.intro (since_step hHeld.1 hk2) (since_step hHeld.2 hk2)
        have hs1 := hs1.below hk2
        have ht1 := ht1.below hk2
        go_wp2_with fail
        refine hK.out _ _ (by (try dsimp only); exact hKeep) (fun hHeld => ?_)
        clear hK K hKeep
        try simp only [Act.put, List.setIfInBounds_toArray, List.set_cons_zero, List.set_cons_succ]
        refine wpAnyH_ready (rs := [4]) (by kernel_rfl) (by simp) ?_
        refine AllReadyH.cons (o := { dst := some 23, op := _, type := _, pos := _, after := _, guard := _ }) rfl (fun K hK => ?_) AllReadyH.nil
        go_simp
        refine (HDR.out A1 c1 l1 b2 _ hl1 hs1 hK2).mono ?_
        rintro e u3 ⟨⟨A3, c3, rfl, ho3⟩, hk3⟩
        have HZ := Lib.hid hHeld.1.size
        have hKeep := And.intro (since_step hHeld.1 hk3) (since_step hHeld.2 hk3)
        have ht1 := ht1.below hk3
        go_wp2_with fail
        refine hK.out _ _ (by (try dsimp only); exact hKeep) (fun hHeld => ?_)
        clear hK K hKeep
        try simp only [Act.put, List.setIfInBounds_toArray, List.set_cons_zero, List.set_cons_succ]
        refine wpAnyH_take (i := 5) (oi := { dst := some 6, op := _, type := _, pos := _, after := _, guard := _ }) (v := ?_) rfl (by kernel_rfl) (by kernel_rfl) (by kernel_rfl) (fun _ _ _ h => h) (Or.inl ⟨by rfl, ?_⟩) hHeld ?_
        rotate_left
        · (intro w hSw; have ck := (HK.out _ (hSw).2).2; have k0 := ck 0; have k1 := ck 1; simp at k0 k1; clear ck; go_simp <;> with_reducible rfl)
        try simp only [Act.put, List.setIfInBounds_toArray, List.set_cons_zero, List.set_cons_succ]
        refine wpAnyH_take (i := 6) (oi := { dst := some 7, op := _, type := _, pos := _, after := _, guard := _ }) (v := ?_) rfl (by kernel_rfl) (by kernel_rfl) (by kernel_rfl) (fun _ _ _ h => h) (Or.inl ⟨by rfl, ?_⟩) hHeld ?_
        rotate_left
        · (intro w hSw; have ck := (HK.out _ (hSw).2).2; have k0 := ck 0; have k1 := ck 1; simp at k0 k1; clear ck; go_simp <;> with_reducible rfl)
        try simp only [Act.put, List.setIfInBounds_toArray, List.set_cons_zero, List.set_cons_succ]
        refine wpAnyH_done (by kernel_rfl) ?_ _
        have hBz := hHeld.1
        have hcap := CapH.of_own ho3
        have hat := (AtOr.own ho3).mono HZ.out
        have hsz := Sl.of_own ho3
        have htz := HdTab.filter (p := fun g => !unHd a c g) (q := fun g => !unH a c g) (fun g d h => by rw [un_is a c g d h]) ht1
        go_wp2_with fail
        go_ret2
        rw [HR.out]
        exact ⟨⟨_, A3, c3, rfl, hsz, htz, hcap, hat, fun g hg => .inr (hf1 g (List.mem_filter.1 hg).1)⟩, hBz⟩
      | cons x r =>
        rw [withH_some _ _ _ (by simp)] at hR
        have HR := Lib.hid hR
        have hpos : (0 : Int) < (((x :: r).length : Nat) : Int) := by simp only [List.length_cons]; omega
        have hqb : ((((x :: r).length : Nat) : Int) == 0) = false := by simp only [List.length_cons]; simp; omega
        clear hR
        go_enter Try.func69, Try.ntmps69
        go_wp2_with fail
        refine HIS.out.mono ?_
        rintro e w1 ⟨rfl, hb⟩
        have hB := since_step hB0 hb
        have hK := hK.below hb
        go_wp2_with fail
        refine (HLI.out _ (HLS.out _ hB)).mono ?_
        rintro e w2 ⟨rfl, hb⟩
        have hB := since_step hB hb
        have hK := hK.below hb
        have HK : Hid (∀ V, Below w2.heap.size w2 V → Bk V w.heap.size #[.int .i64 a, .int .i64 c]) := Lib.hid fun V hV => hK.below hV
        clear hb
        go_wp2_with fail
        refine wp_region_held_drew (S := (fun V => Below w.heap.size w V ∧ Below w2.heap.size w2 V)) (by kernel_rfl) (by exact ⟨hB.drew, (Below.refl _ _).drew⟩) (fun hHeld => ?_)
        refine wpAnyH_take (i := 0) (oi := { dst := some 24, op := _, type := _, pos := _, after := _, guard := _ }) (v := ?_) rfl (by kernel_rfl) (by kernel_rfl) (by kernel_rfl) (fun _ _ _ h => h) (Or.inl ⟨by rfl, ?_⟩) hHeld ?_
        rotate_left
        · (intro w hSw; have ck := (HK.out _ (hSw).2).2; have k0 := ck 0; have k1 := ck 1; simp at k0 k1; clear ck; go_simp <;> with_reducible rfl)
        try simp only [Act.put, List.setIfInBounds_toArray, List.set_cons_zero, List.set_cons_succ]
        refine wpAnyH_take (i := 2) (oi := { dst := some 26, op := _, type := _, pos := _, after := _, guard := _ }) (v := ?_) rfl (by kernel_rfl) (by kernel_rfl) (by kernel_rfl) (fun _ _ _ h => h) (Or.inl ⟨by rfl, ?_⟩) hHeld ?_
        rotate_left
        · (intro w hSw; have ck := (HK.out _ (hSw).2).2; have k0 := ck 0; have k1 := ck 1; simp at k0 k1; clear ck; go_simp <;> with_reducible rfl)
        try simp only [Act.put, List.setIfInBounds_toArray, List.set_cons_zero, List.set_cons_succ]
        refine wpAnyH_take (i := 3) (oi := { dst := some 27, op := _, type := _, pos := _, after := _, guard := _ }) (v := ?_) rfl (by kernel_rfl) (by kernel_rfl) (by kernel_rfl) (fun _ _ _ h => h) (Or.inl ⟨by rfl, ?_⟩) hHeld ?_
        rotate_left
        · (intro w hSw; have ck := (HK.out _ (hSw).2).2; have k0 := ck 0; have k1 := ck 1; simp at k0 k1; clear ck; go_simp <;> with_reducible rfl)
        try simp only [Act.put, List.setIfInBounds_toArray, List.set_cons_zero, List.set_cons_succ]
        refine wpAnyH_take (i := 4) (oi := { dst := some 28, op := _, type := _, pos := _, after := _, guard := _ }) (v := ?_) rfl (by kernel_rfl) (by kernel_rfl) (by kernel_rfl) (fun _ _ _ h => h) (Or.inl ⟨by rfl, ?_⟩) hHeld ?_
        rotate_left
        · (intro w hSw; have ck := (HK.out _ (hSw).2).2; have k0 := ck 0; have k1 := ck 1; simp at k0 k1; clear ck; go_simp <;> with_reducible rfl)
        try simp only [Act.put, List.setIfInBounds_toArray, List.set_cons_zero, List.set_cons_succ]
        refine wpAnyH_ready (rs := [1]) (by kernel_rfl) (by simp) ?_
        refine AllReadyH.cons (o := { dst := some 25, op := _, type := _, pos := _, after := _, guard := _ }) rfl (fun K hK => ?_) AllReadyH.nil
        go_simp
        refine (HD.out _ (HSL.out _ hHeld.1) (HTB.out _ hHeld.1)).mono ?_
        rintro e u1 ⟨⟨l1, A1, c1, rfl, ho1, hot1⟩, hk1⟩
        have hKeep := And.intro (since_step hHeld.1 hk1) (since_step hHeld.2 hk1)
        have hs1 := Sl.of_own ho1
        have ht1 := hot1.tab
        have hf1 : ∀ g ∈ l1, AtOr w.heap.size g.lt := fun g hg => (hot1.far g hg).mono hHeld.1.size
        have hl1 : l1.length ≤ 1000000 := by rw [ht1.1]; exact HLL.out
        clear ho1 hot1
        go_wp2_with fail
        refine hK.out _ _ (by (try dsimp only); exact hKeep) (fun hHeld => ?_)
        clear hK K hKeep
        try simp only [Act.put, List.setIfInBounds_toArray, List.set_cons_zero, List.set_cons_succ]
        refine wpAnyH_ready (rs := [5]) (by kernel_rfl) (by simp) ?_
        refine AllReadyH.cons (o := { dst := some 29, op := _, type := _, pos := _, after := _, guard := _ }) rfl (fun K hK => ?_) AllReadyH.nil
        go_simp
        refine (HD1.out _ (HLS.out _ hHeld.1)).mono ?_
        rintro e u2 ⟨⟨A2, c2, rfl, ho2⟩, hk2⟩
        have hKeep := And.intro (since_step hHeld.1 hk2) (since_step hHeld.2 hk2)
        have hs1 := hs1.below hk2
        have ht1 := ht1.below hk2
        have hs2 := Sl.of_own ho2
        have hf2 : AtOr w.heap.size A2 := (AtOr.own ho2).mono hHeld.1.size
        clear ho2
        go_wp2_with fail
        refine hK.out _ _ (by (try dsimp only); exact hKeep) (fun hHeld => ?_)
        clear hK K hKeep
        try simp only [Act.put, List.setIfInBounds_toArray, List.set_cons_zero, List.set_cons_succ]
        refine wpAnyH_ready (rs := [6]) (by kernel_rfl) (by simp) ?_
        refine AllReadyH.cons (o := { dst := some 30, op := _, type := _, pos := _, after := _, guard := _ }) rfl (fun K hK => ?_) AllReadyH.nil
        go_simp
        refine (HPU.out A1 c1 l1 A2 c2 _ hl1 hs1).mono ?_
        rintro e u3 ⟨⟨A3, c3, rfl, ho3⟩, hk3⟩
        have HZ := Lib.hid hHeld.1.size
        have hKeep := And.intro (since_step hHeld.1 hk3) (since_step hHeld.2 hk3)
        have ht1 := ht1.below hk3
        have hs2 := hs2.below hk3
        go_wp2_with fail
        refine hK.out _ _ (by (try dsimp only); exact hKeep) (fun hHeld => ?_)
        clear hK K hKeep
        try simp only [Act.put, List.setIfInBounds_toArray, List.set_cons_zero, List.set_cons_succ]
        refine wpAnyH_take (i := 7) (oi := { dst := some 6, op := _, type := _, pos := _, after := _, guard := _ }) (v := ?_) rfl (by kernel_rfl) (by kernel_rfl) (by kernel_rfl) (fun _ _ _ h => h) (Or.inl ⟨by rfl, ?_⟩) hHeld ?_
        rotate_left
        · (intro w hSw; have ck := (HK.out _ (hSw).2).2; have k0 := ck 0; have k1 := ck 1; simp at k0 k1; clear ck; go_simp <;> with_reducible rfl)
        try simp only [Act.put, List.setIfInBounds_toArray, List.set_cons_zero, List.set_cons_succ]
        refine wpAnyH_take (i := 8) (oi := { dst := some 7, op := _, type := _, pos := _, after := _, guard := _ }) (v := ?_) rfl (by kernel_rfl) (by kernel_rfl) (by kernel_rfl) (fun _ _ _ h => h) (Or.inl ⟨by rfl, ?_⟩) hHeld ?_
        rotate_left
        · (intro w hSw; have ck := (HK.out _ (hSw).2).2; have k0 := ck 0; have k1 := ck 1; simp at k0 k1; clear ck; go_simp <;> with_reducible rfl)
        try simp only [Act.put, List.setIfInBounds_toArray, List.set_cons_zero, List.set_cons_succ]
        refine wpAnyH_done (by kernel_rfl) ?_ _
        have hBz := hHeld.1
        have hcap := CapH.of_own ho3
        have hat := (AtOr.own ho3).mono HZ.out
        have hsz := Sl.of_own ho3
        have htz := HdTab.put (w := u3) (g := ⟨a, c, A2, (x :: r).length, c2⟩) (c := ⟨a, c, x :: r⟩) ah_is ⟨rfl, rfl, rfl, hs2⟩ ht1
        rw [← putL_eq] at htz
        go_wp2_with fail
        go_ret2
        rw [HR.out]
        exact ⟨⟨_, A3, c3, rfl, hsz, htz, hcap, hat, fun g hg => .inr ((mem_putL_far hf1 hf2 g hg))⟩, hBz⟩
theorem hset_any (A : Option Addr) (cap : Nat) (l : List Hd) (cs : List Hc) (a c : Int) (LA : Option Addr) (LC : Nat) (L : List Lt) (w : World) (hl : l.length ≤ 900000) (hcl : ∀ g ∈ cs, g.L.length ≤ 900000) (hLl : L.length ≤ 900000) (hs : Sl w A (rc Hd.cells l)) (ht : HdTab w l cs) (hLs : Sl w LA (rc Lt.cells L)) :
    Calls Try.prog 69 #[.slice A l.length cap, .agg #[.int .i64 a, .int .i64 c], .slice LA L.length LC] w fun e w' => HRes w' e (setHR cs a c L) ∧ Below w.heap.size w w' :=
  (hset_anyN A cap l cs a c LA LC L w hl hcl hLl hs ht hLs).mono fun e w h => ⟨h.1.res, h.2⟩
end Go.Proofs.Ytldnponbkhgijaa
end
section
namespace Go.Proofs.Ytldnponbkhgijaa
open Go.ChangeShapes Go.WideShapes Go.ChangeAt Go.RowKit
set_option linter.unusedVariables false
set_option linter.unusedSimpArgs false

theorem chgHR_form {how : List Lt → Int × List Lt} {cs : List Hc} {a c : Int} (h : isH cs = false) : chgHR how cs a c = (3, []) := if_pos h
theorem chgHR_err {how : List Lt → Int × List Lt} {cs : List Hc} {a c n : Int} {L : List Lt} (h : isH cs = true) (h2 : how (lotsH cs a c) = (n, L)) (h3 : n ≠ 0) : chgHR how cs a c = (n, []) := by
  unfold chgHR; rw [if_neg (by simp [h]), h2, if_pos h3]
theorem chgHR_ok {how : List Lt → Int × List Lt} {cs : List Hc} {a c : Int} {L : List Lt} (h : isH cs = true) (h2 : how (lotsH cs a c) = (0, L)) : chgHR how cs a c = (0, withH cs a c L) := by
  unfold chgHR; rw [if_neg (by simp [h]), h2, if_neg (by simp)]
theorem rhwith_any (A : Option Addr) (cap : Nat) (l : List Hd) (cs : List Hc) (a c : Int) (LA : Option Addr) (LC : Nat) (L : List Lt) (w : World) (hl : l.length ≤ 900000) (hcap : CapH A l.length cap) (hs : Sl w A (rc Hd.cells l)) (ht : HdTab w l cs) (hso : SoH cs) (hLs : Sl w LA (rc Lt.cells L)) :
    Calls Try.prog 132 #[.slice A l.length cap, .agg #[.int .i64 a, .int .i64 c], .slice LA L.length LC] w fun e w' => HRow w' e (withH cs a c L) ∧ Below w.heap.size w w' := by
  cases L with
  | nil => exact rhwith_nil A cap l cs a c LA LC w hl hcap hs ht hso
  | cons x r => exact rhwith_some A cap l cs a c LA LC (x :: r) w hl hcap hs ht hso hLs (by simp)
theorem isLs_le {L : List Lt} (h : isLs L = true) : L.length ≤ 900000 := by have := ((isLs_iff L).1 h).2.1; omega
set_option maxHeartbeats 8000000 in
set_option maxRecDepth 100000 in
theorem hchange_put (A : Option Addr) (cap : Nat) (l : List Hd) (cs : List Hc) (a c xa xt xq : Int) (w : World) (hl : l.length ≤ 900000) (hcl : ∀ g ∈ cs, g.L.length ≤ 900000) (hx : In64 xq) (h6 : ∀ g ∈ cs, ∀ y ∈ g.L, In64 y.qty) (hs : Sl w A (rc Hd.cells l)) (ht : HdTab w l cs) :
    Calls Try.prog 129 #[.slice A l.length cap, .agg #[.int .i64 a, .int .i64 c], .agg #[.int .i64 xa, .int .i64 xt, .int .i64 xq], .func (.func 130) #[] #[]] w fun e w' => HRes w' e (chgHR (fun m => putLR m ⟨xa, xt, xq⟩) cs a c) ∧ Below w.heap.size w w' := by
  have hB0 := since_alloc (since_alloc (Below.refl _ w) (.cells #[.int .i64 a, .int .i64 c] 24)) (.cells #[.int .i64 xa, .int .i64 xt, .int .i64 xq] 93)
  have hK1 := (Bk.new w #[.int .i64 a, .int .i64 c] 24).alloc (.cells #[.int .i64 xa, .int .i64 xt, .int .i64 xq] 93)
  have hK2 := Bk.new (w.alloc (.cells #[.int .i64 a, .int .i64 c] 24)) #[.int .i64 xa, .int .i64 xt, .int .i64 xq] 93
  rw [World.size_alloc] at hK2
  have HIS := Lib.hid (his_any A cap l cs _ hl hcl ((hs.alloc (.cells #[.int .i64 a, .int .i64 c] 24)).alloc (.cells #[.int .i64 xa, .int .i64 xt, .int .i64 xq] 93)) (ht.below hB0))
  have HSL : Hid (∀ V, Below w.heap.size w V → Sl V A (rc Hd.cells l)) := Lib.hid fun V hV => hs.below hV
  have HTB : Hid (∀ V, Below w.heap.size w V → HdTab V l cs) := Lib.hid fun V hV => ht.below hV
  have HLO := Lib.hid (fun V h1 h2 => hlots_any A cap l cs a c V hl hcl h1 h2)
  have hlen := lotsH_len hcl a c
  have hl6 := lots_in6 h6 a c
  have HHO := Lib.hid (fun A1 c1 V h1 => lput_any A1 c1 (lotsH cs a c) ⟨xa, xt, xq⟩ V hlen hx hl6 h1)
  obtain ⟨rn, RL, hR⟩ : ∃ rn RL, putLR (lotsH cs a c) ⟨xa, xt, xq⟩ = (rn, RL) := ⟨_, _, rfl⟩
  rw [hR] at HHO
  unfold LRes Lt.val at HHO
  simp only at HHO
  clear hs ht
  have hF : Ent Try.prog 130 := Ent.of (by kernel_rfl)
  cases hi : isH cs with
  | false =>
    have HR := Lib.hid (chgHR_form (how := fun m => putLR m ⟨xa, xt, xq⟩) (a := a) (c := c) hi)
    rw [hi] at HIS
    clear hi hR
    go_enter Try.func129, Try.ntmps129
    go_wp2_with fail
    refine HIS.out.mono ?_
    rintro e w1 ⟨rfl, hb⟩
    have hB1 := since_step hB0 hb
    go_wp2_with fail
    go_ret2
    rw [HR.out]
    exact ⟨HRes.nil _ _, hB1⟩
  | true =>
    rw [hi] at HIS
    by_cases hn : rn = 0
    rotate_left
    · have HR := Lib.hid (chgHR_err (how := fun m => putLR m ⟨xa, xt, xq⟩) hi hR hn)
      have hnb : (rn != 0) = true := by simpa using hn
      have hnb2 : (rn == 0) = false := by simpa using hn
      clear hi hR hn
      go_enter Try.func129, Try.ntmps129
      go_wp2_with fail
      refine HIS.out.mono ?_
      rintro e w1 ⟨rfl, hb⟩
      have hB1 := since_step hB0 hb
      have HK1 : Hid (∀ V, Below w1.heap.size w1 V → Bk V w.heap.size #[.int .i64 a, .int .i64 c]) := Lib.hid fun V hV => (hK1.below hb).below hV
      have HK2 : Hid (∀ V, Below w1.heap.size w1 V → Bk V (w.heap.size + 1) #[.int .i64 xa, .int .i64 xt, .int .i64 xq]) := Lib.hid fun V hV => (hK2.below hb).below hV
      generalize lotsH cs a c = L0 at *
      clear hb hK1 hK2
      go_wp2_with fail
      refine wp_region_held_drew (S := (fun V => Below w.heap.size w V ∧ Below w1.heap.size w1 V)) (by kernel_rfl) (by exact ⟨hB1.drew, (Below.refl _ _).drew⟩) (fun hHeld => ?_)
      refine wpAnyH_take (i := 0) (oi := { dst := some 16, op := _, type := _, pos := _, after := _, guard := _ }) (v := ?_) rfl (by kernel_rfl) (by kernel_rfl) (by kernel_rfl) (fun _ _ _ h => h) (Or.inl ⟨by rfl, ?_⟩) hHeld ?_
      rotate_left
      · (intro w hSw; have ck := (HK1.out _ (hSw).2).2; have k0 := ck 0; have k1 := ck 1; simp at k0 k1; clear ck; have cq := (HK2.out _ (hSw).2).2; have k2 := cq 0; have k3 := cq 1; have k4 := cq 2; simp at k2 k3 k4; clear cq; go_simp <;> with_reducible rfl)
      try simp only [Act.put, List.setIfInBounds_toArray, List.set_cons_zero, List.set_cons_succ]
      refine wpAnyH_take (i := 1) (oi := { dst := some 17, op := _, type := _, pos := _, after := _, guard := _ }) (v := ?_) rfl (by kernel_rfl) (by kernel_rfl) (by kernel_rfl) (fun _ _ _ h => h) (Or.inl ⟨by rfl, ?_⟩) hHeld ?_
      rotate_left
      · (intro w hSw; have ck := (HK1.out _ (hSw).2).2; have k0 := ck 0; have k1 := ck 1; simp at k0 k1; clear ck; have cq := (HK2.out _ (hSw).2).2; have k2 := cq 0; have k3 := cq 1; have k4 := cq 2; simp at k2 k3 k4; clear cq; go_simp <;> with_reducible rfl)
      try simp only [Act.put, List.setIfInBounds_toArray, List.set_cons_zero, List.set_cons_succ]
      refine wpAnyH_take (i := 2) (oi := { dst := some 18, op := _, type := _, pos := _, after := _, guard := _ }) (v := ?_) rfl (by kernel_rfl) (by kernel_rfl) (by kernel_rfl) (fun _ _ _ h => h) (Or.inl ⟨by rfl, ?_⟩) hHeld ?_
      rotate_left
      · (intro w hSw; have ck := (HK1.out _ (hSw).2).2; have k0 := ck 0; have k1 := ck 1; simp at k0 k1; clear ck; have cq := (HK2.out _ (hSw).2).2; have k2 := cq 0; have k3 := cq 1; have k4 := cq 2; simp at k2 k3 k4; clear cq; go_simp <;> with_reducible rfl)
      try simp only [Act.put, List.setIfInBounds_toArray, List.set_cons_zero, List.set_cons_succ]
      refine wpAnyH_take (i := 4) (oi := { dst := some 20, op := _, type := _, pos := _, after := _, guard := _ }) (v := ?_) rfl (by kernel_rfl) (by kernel_rfl) (by kernel_rfl) (fun _ _ _ h => h) (Or.inl ⟨by rfl, ?_⟩) hHeld ?_
      rotate_left
      · (intro w hSw; have ck := (HK1.out _ (hSw).2).2; have k0 := ck 0; have k1 := ck 1; simp at k0 k1; clear ck; have cq := (HK2.out _ (hSw).2).2; have k2 := cq 0; have k3 := cq 1; have k4 := cq 2; simp at k2 k3 k4; clear cq; go_simp <;> with_reducible rfl)
      try simp only [Act.put, List.setIfInBounds_toArray, List.set_cons_zero, List.set_cons_succ]
      refine wpAnyH_ready (rs := [3]) (by kernel_rfl) (by simp) ?_
      refine AllReadyH.cons (o := { dst := some 19, op := _, type := _, pos := _, after := _, guard := _ }) rfl (fun K hK => ?_) AllReadyH.nil
      go_simp
      refine (HLO.out _ (HSL.out _ hHeld.1) (HTB.out _ hHeld.1)).mono ?_
      rintro e u1 ⟨⟨A1, c1, rfl, ho1⟩, hk1⟩
      have hKeep := And.intro (since_step hHeld.1 hk1) (since_step hHeld.2 hk1)
      have hs1 := Sl.of_own ho1
      clear ho1
      go_wp2_with fail
      refine hK.out _ _ (by (try dsimp only); exact hKeep) (fun hHeld => ?_)
      clear hK K hKeep
      try simp only [Act.put, List.setIfInBounds_toArray, List.set_cons_zero, List.set_cons_succ]
      refine wpAnyH_ready (rs := [5]) (by kernel_rfl) (by simp) ?_
      refine AllReadyH.cons (o := { dst := some 21, op := _, type := _, pos := _, after := _, guard := _ }) rfl (fun K hK => ?_) AllReadyH.nil
      go_simp
      refine (HHO.out A1 c1 _ hs1).mono ?_
      rintro e u2 ⟨⟨A2, c2, rfl, ho2⟩, hk2⟩
      have hKeep := And.intro (since_step hHeld.1 hk2) (since_step hHeld.2 hk2)
      go_wp2_with fail
      refine hK.out _ _ (by (try dsimp only); exact hKeep) (fun hHeld => ?_)
      clear hK K hKeep
      try simp only [Act.put, List.setIfInBounds_toArray, List.set_cons_zero, List.set_cons_succ]
      refine wpAnyH_take (i := 6) (oi := { dst := some 15, op := _, type := _, pos := _, after := _, guard := _ }) (v := ?_) rfl (by kernel_rfl) (by kernel_rfl) (by kernel_rfl) (fun _ _ _ h => h) (Or.inl ⟨by rfl, ?_⟩) hHeld ?_
      rotate_left
      · (intro w hSw; have ck := (HK1.out _ (hSw).2).2; have k0 := ck 0; have k1 := ck 1; simp at k0 k1; clear ck; have cq := (HK2.out _ (hSw).2).2; have k2 := cq 0; have k3 := cq 1; have k4 := cq 2; simp at k2 k3 k4; clear cq; go_simp <;> with_reducible rfl)
      try simp only [Act.put, List.setIfInBounds_toArray, List.set_cons_zero, List.set_cons_succ]
      refine wpAnyH_take (i := 7) (oi := { dst := some 22, op := _, type := _, pos := _, after := _, guard := _ }) (v := ?_) rfl (by kernel_rfl) (by kernel_rfl) (by kernel_rfl) (fun _ _ _ h => h) (Or.inl ⟨by rfl, ?_⟩) hHeld ?_
      rotate_left
      · (intro w hSw; have ck := (HK1.out _ (hSw).2).2; have k0 := ck 0; have k1 := ck 1; simp at k0 k1; clear ck; have cq := (HK2.out _ (hSw).2).2; have k2 := cq 0; have k3 := cq 1; have k4 := cq 2; simp at k2 k3 k4; clear cq; go_simp <;> with_reducible rfl)
      try simp only [Act.put, List.setIfInBounds_toArray, List.set_cons_zero, List.set_cons_succ]
      refine wpAnyH_take (i := 8) (oi := { dst := some 23, op := _, type := _, pos := _, after := _, guard := _ }) (v := ?_) rfl (by kernel_rfl) (by kernel_rfl) (by kernel_rfl) (fun _ _ _ h => h) (Or.inl ⟨by rfl, ?_⟩) hHeld ?_
      rotate_left
      · (intro w hSw; have ck := (HK1.out _ (hSw).2).2; have k0 := ck 0; have k1 := ck 1; simp at k0 k1; clear ck; have cq := (HK2.out _ (hSw).2).2; have k2 := cq 0; have k3 := cq 1; have k4 := cq 2; simp at k2 k3 k4; clear cq; go_simp <;> with_reducible rfl)
      try simp only [Act.put, List.setIfInBounds_toArray, List.set_cons_zero, List.set_cons_succ]
      refine wpAnyH_take (i := 9) (oi := { dst := some 10, op := _, type := _, pos := _, after := _, guard := _ }) (v := ?_) rfl (by kernel_rfl) (by kernel_rfl) (by kernel_rfl) (fun _ _ _ h => h) (Or.inl ⟨by rfl, ?_⟩) hHeld ?_
      rotate_left
      · (intro w hSw; have ck := (HK1.out _ (hSw).2).2; have k0 := ck 0; have k1 := ck 1; simp at k0 k1; clear ck; have cq := (HK2.out _ (hSw).2).2; have k2 := cq 0; have k3 := cq 1; have k4 := cq 2; simp at k2 k3 k4; clear cq; go_simp <;> with_reducible rfl)
      try simp only [Act.put, List.setIfInBounds_toArray, List.set_cons_zero, List.set_cons_succ]
      refine wpAnyH_take (i := 10) (oi := { dst := some 11, op := _, type := _, pos := _, after := _, guard := _ }) (v := ?_) rfl (by kernel_rfl) (by kernel_rfl) (by kernel_rfl) (fun _ _ _ h => h) (Or.inl ⟨by rfl, ?_⟩) hHeld ?_
      rotate_left
      · (intro w hSw; have ck := (HK1.out _ (hSw).2).2; have k0 := ck 0; have k1 := ck 1; simp at k0 k1; clear ck; have cq := (HK2.out _ (hSw).2).2; have k2 := cq 0; have k3 := cq 1; have k4 := cq 2; simp at k2 k3 k4; clear cq; go_simp <;> with_reducible rfl)
      try simp only [Act.put, List.setIfInBounds_toArray, List.set_cons_zero, List.set_cons_succ]
      refine wpAnyH_done (by kernel_rfl) ?_ _
      have hBz := hHeld.1
      go_wp2_with fail
      go_ret2
      rw [HR.out]
      exact ⟨HRes.nil _ _, hBz⟩

    · subst hn
      have hRi : isLs RL = true := (put_is hR).1
      have hRl := isLs_le hRi
      have hso := isH_sorted hi
      have HR := Lib.hid (chgHR_ok (how := fun m => putLR m ⟨xa, xt, xq⟩) hi hR)
      have HWI := Lib.hid (fun A2 c2 V h1 h2 h3 => hset_any A cap l cs a c A2 c2 RL V hl hcl hRl h1 h2 h3)
      rw [setHR_ok hi hRi] at HWI
      clear hi hR
      go_enter Try.func129, Try.ntmps129
      go_wp2_with fail
      refine HIS.out.mono ?_
      rintro e w1 ⟨rfl, hb⟩
      have hB1 := since_step hB0 hb
      have HK1 : Hid (∀ V, Below w1.heap.size w1 V → Bk V w.heap.size #[.int .i64 a, .int .i64 c]) := Lib.hid fun V hV => (hK1.below hb).below hV
      have HK2 : Hid (∀ V, Below w1.heap.size w1 V → Bk V (w.heap.size + 1) #[.int .i64 xa, .int .i64 xt, .int .i64 xq]) := Lib.hid fun V hV => (hK2.below hb).below hV
      generalize lotsH cs a c = L0 at *
      clear hb hK1 hK2
      go_wp2_with fail
      refine wp_region_held_drew (S := (fun V => Below w.heap.size w V ∧ Below w1.heap.size w1 V)) (by kernel_rfl) (by exact ⟨hB1.drew, (Below.refl _ _).drew⟩) (fun hHeld => ?_)
      refine wpAnyH_take (i := 0) (oi := { dst := some 16, op := _, type := _, pos := _, after := _, guard := _ }) (v := ?_) rfl (by kernel_rfl) (by kernel_rfl) (by kernel_rfl) (fun _ _ _ h => h) (Or.inl ⟨by rfl, ?_⟩) hHeld ?_
      rotate_left
      · (intro w hSw; have ck := (HK1.out _ (hSw).2).2; have k0 := ck 0; have k1 := ck 1; simp at k0 k1; clear ck; have cq := (HK2.out _ (hSw).2).2; have k2 := cq 0; have k3 := cq 1; have k4 := cq 2; simp at k2 k3 k4; clear cq; go_simp <;> with_reducible rfl)
      try simp only [Act.put, List.setIfInBounds_toArray, List.set_cons_zero, List.set_cons_succ]
      refine wpAnyH_take (i := 1) (oi := { dst := some 17, op := _, type := _, pos := _, after := _, guard := _ }) (v := ?_) rfl (by kernel_rfl) (by kernel_rfl) (by kernel_rfl) (fun _ _ _ h => h) (Or.inl ⟨by rfl, ?_⟩) hHeld ?_
      rotate_left
      · (intro w hSw; have ck := (HK1.out _ (hSw).2).2; have k0 := ck 0; have k1 := ck 1; simp at k0 k1; clear ck; have cq := (HK2.out _ (hSw).2).2; have k2 := cq 0; have k3 := cq 1; have k4 := cq 2; simp at k2 k3 k4; clear cq; go_simp <;> with_reducible rfl)
      try simp only [Act.put, List.setIfInBounds_toArray, List.set_cons_zero, List.set_cons_succ]
      refine wpAnyH_take (i := 2) (oi := { dst := some 18, op := _, type := _, pos := _, after := _, guard := _ }) (v := ?_) rfl (by kernel_rfl) (by kernel_rfl) (by kernel_rfl) (fun _ _ _ h => h) (Or.inl ⟨by rfl, ?_⟩) hHeld ?_
      rotate_left
      · (intro w hSw; have ck := (HK1.out _ (hSw).2).2; have k0 := ck 0; have k1 := ck 1; simp at k0 k1; clear ck; have cq := (HK2.out _ (hSw).2).2; have k2 := cq 0; have k3 := cq 1; have k4 := cq 2; simp at k2 k3 k4; clear cq; go_simp <;> with_reducible rfl)
      try simp only [Act.put, List.setIfInBounds_toArray, List.set_cons_zero, List.set_cons_succ]
      refine wpAnyH_take (i := 4) (oi := { dst := some 20, op := _, type := _, pos := _, after := _, guard := _ }) (v := ?_) rfl (by kernel_rfl) (by kernel_rfl) (by kernel_rfl) (fun _ _ _ h => h) (Or.inl ⟨by rfl, ?_⟩) hHeld ?_
      rotate_left
      · (intro w hSw; have ck := (HK1.out _ (hSw).2).2; have k0 := ck 0; have k1 := ck 1; simp at k0 k1; clear ck; have cq := (HK2.out _ (hSw).2).2; have k2 := cq 0; have k3 := cq 1; have k4 := cq 2; simp at k2 k3 k4; clear cq; go_simp <;> with_reducible rfl)
      try simp only [Act.put, List.setIfInBounds_toArray, List.set_cons_zero, List.set_cons_succ]
      refine wpAnyH_ready (rs := [3]) (by kernel_rfl) (by simp) ?_
      refine AllReadyH.cons (o := { dst := some 19, op := _, type := _, pos := _, after := _, guard := _ }) rfl (fun K hK => ?_) AllReadyH.nil
      go_simp
      refine (HLO.out _ (HSL.out _ hHeld.1) (HTB.out _ hHeld.1)).mono ?_
      rintro e u1 ⟨⟨A1, c1, rfl, ho1⟩, hk1⟩
      have hKeep := And.intro (since_step hHeld.1 hk1) (since_step hHeld.2 hk1)
      have hs1 := Sl.of_own ho1
      clear ho1
      go_wp2_with fail
      refine hK.out _ _ (by (try dsimp only); exact hKeep) (fun hHeld => ?_)
      clear hK K hKeep
      try simp only [Act.put, List.setIfInBounds_toArray, List.set_cons_zero, List.set_cons_succ]
      refine wpAnyH_ready (rs := [5]) (by kernel_rfl) (by simp) ?_
      refine AllReadyH.cons (o := { dst := some 21, op := _, type := _, pos := _, after := _, guard := _ }) rfl (fun K hK => ?_) AllReadyH.nil
      go_simp
      refine (HHO.out A1 c1 _ hs1).mono ?_
      rintro e u2 ⟨⟨A2, c2, rfl, ho2⟩, hk2⟩
      have hKeep := And.intro (since_step hHeld.1 hk2) (since_step hHeld.2 hk2)
      go_wp2_with fail
      refine hK.out _ _ (by (try dsimp only); exact hKeep) (fun hHeld => ?_)
      clear hK K hKeep
      try simp only [Act.put, List.setIfInBounds_toArray, List.set_cons_zero, List.set_cons_succ]
      refine wpAnyH_take (i := 6) (oi := { dst := some 15, op := _, type := _, pos := _, after := _, guard := _ }) (v := ?_) rfl (by kernel_rfl) (by kernel_rfl) (by kernel_rfl) (fun _ _ _ h => h) (Or.inl ⟨by rfl, ?_⟩) hHeld ?_
      rotate_left
      · (intro w hSw; have ck := (HK1.out _ (hSw).2).2; have k0 := ck 0; have k1 := ck 1; simp at k0 k1; clear ck; have cq := (HK2.out _ (hSw).2).2; have k2 := cq 0; have k3 := cq 1; have k4 := cq 2; simp at k2 k3 k4; clear cq; go_simp <;> with_reducible rfl)
      try simp only [Act.put, List.setIfInBounds_toArray, List.set_cons_zero, List.set_cons_succ]
      refine wpAnyH_take (i := 7) (oi := { dst := some 22, op := _, type := _, pos := _, after := _, guard := _ }) (v := ?_) rfl (by kernel_rfl) (by kernel_rfl) (by kernel_rfl) (fun _ _ _ h => h) (Or.inl ⟨by rfl, ?_⟩) hHeld ?_
      rotate_left
      · (intro w hSw; have ck := (HK1.out _ (hSw).2).2; have k0 := ck 0; have k1 := ck 1; simp at k0 k1; clear ck; have cq := (HK2.out _ (hSw).2).2; have k2 := cq 0; have k3 := cq 1; have k4 := cq 2; simp at k2 k3 k4; clear cq; go_simp <;> with_reducible rfl)
      try simp only [Act.put, List.setIfInBounds_toArray, List.set_cons_zero, List.set_cons_succ]
      refine wpAnyH_take (i := 8) (oi := { dst := some 23, op := _, type := _, pos := _, after := _, guard := _ }) (v := ?_) rfl (by kernel_rfl) (by kernel_rfl) (by kernel_rfl) (fun _ _ _ h => h) (Or.inl ⟨by rfl, ?_⟩) hHeld ?_
      rotate_left
      · (intro w hSw; have ck := (HK1.out _ (hSw).2).2; have k0 := ck 0; have k1 := ck 1; simp at k0 k1; clear ck; have cq := (HK2.out _ (hSw).2).2; have k2 := cq 0; have k3 := cq 1; have k4 := cq 2; simp at k2 k3 k4; clear cq; go_simp <;> with_reducible rfl)
      try simp only [Act.put, List.setIfInBounds_toArray, List.set_cons_zero, List.set_cons_succ]
      refine wpAnyH_take (i := 9) (oi := { dst := some 10, op := _, type := _, pos := _, after := _, guard := _ }) (v := ?_) rfl (by kernel_rfl) (by kernel_rfl) (by kernel_rfl) (fun _ _ _ h => h) (Or.inl ⟨by rfl, ?_⟩) hHeld ?_
      rotate_left
      · (intro w hSw; have ck := (HK1.out _ (hSw).2).2; have k0 := ck 0; have k1 := ck 1; simp at k0 k1; clear ck; have cq := (HK2.out _ (hSw).2).2; have k2 := cq 0; have k3 := cq 1; have k4 := cq 2; simp at k2 k3 k4; clear cq; go_simp <;> with_reducible rfl)
      try simp only [Act.put, List.setIfInBounds_toArray, List.set_cons_zero, List.set_cons_succ]
      refine wpAnyH_take (i := 10) (oi := { dst := some 11, op := _, type := _, pos := _, after := _, guard := _ }) (v := ?_) rfl (by kernel_rfl) (by kernel_rfl) (by kernel_rfl) (fun _ _ _ h => h) (Or.inl ⟨by rfl, ?_⟩) hHeld ?_
      rotate_left
      · (intro w hSw; have ck := (HK1.out _ (hSw).2).2; have k0 := ck 0; have k1 := ck 1; simp at k0 k1; clear ck; have cq := (HK2.out _ (hSw).2).2; have k2 := cq 0; have k3 := cq 1; have k4 := cq 2; simp at k2 k3 k4; clear cq; go_simp <;> with_reducible rfl)
      try simp only [Act.put, List.setIfInBounds_toArray, List.set_cons_zero, List.set_cons_succ]
      refine wpAnyH_done (by kernel_rfl) ?_ _
      have hBz := hHeld.1
      have ck := (HK1.out _ hHeld.2).2
      have k0 := ck 0
      have k1 := ck 1
      simp at k0 k1
      clear ck
      have hs2 := Sl.of_own ho2
      have HW := Lib.hid (HWI.out A2 c2 _ (HSL.out _ hBz) (HTB.out _ hBz) hs2)
      go_wp2_with fail
      refine HW.out.mono ?_
      rintro e u3 ⟨⟨l3, A3, c3, rfl, hs3, ht3, hc3⟩, hk3⟩
      have hBz := since_step hBz hk3
      go_wp2_with fail
      go_ret2
      rw [HR.out]
      exact ⟨⟨l3, A3, c3, rfl, hs3, ht3, hc3⟩, hBz⟩
set_option maxHeartbeats 4000000 in
set_option maxRecDepth 100000 in
theorem hput_any (A : Option Addr) (cap : Nat) (l : List Hd) (cs : List Hc) (a c xa xt xq : Int) (w : World) (hl : l.length ≤ 900000) (hcl : ∀ g ∈ cs, g.L.length ≤ 900000) (hx : In64 xq) (h6 : ∀ g ∈ cs, ∀ y ∈ g.L, In64 y.qty) (hs : Sl w A (rc Hd.cells l)) (ht : HdTab w l cs) :
    Calls Try.prog 65 #[.slice A l.length cap, .agg #[.int .i64 a, .int .i64 c], .agg #[.int .i64 xa, .int .i64 xt, .int .i64 xq]] w fun e w' => HRes w' e (chgHR (fun m => putLR m ⟨xa, xt, xq⟩) cs a c) ∧ Below w.heap.size w w' := by
  have hB0 := since_alloc (since_alloc (Below.refl _ w) (.cells #[.int .i64 a, .int .i64 c] 24)) (.cells #[.int .i64 xa, .int .i64 xt, .int .i64 xq] 93)
  have hK1 := (Bk.new w #[.int .i64 a, .int .i64 c] 24).alloc (.cells #[.int .i64 xa, .int .i64 xt, .int .i64 xq] 93)
  have hK2 := Bk.new (w.alloc (.cells #[.int .i64 a, .int .i64 c] 24)) #[.int .i64 xa, .int .i64 xt, .int .i64 xq] 93
  rw [World.size_alloc] at hK2
  have HC := Lib.hid (hchange_put A cap l cs a c xa xt xq _ hl hcl hx h6 ((hs.alloc (.cells #[.int .i64 a, .int .i64 c] 24)).alloc (.cells #[.int .i64 xa, .int .i64 xt, .int .i64 xq] 93)) (ht.below hB0))
  generalize chgHR (fun m => putLR m ⟨xa, xt, xq⟩) cs a c = RR at *
  obtain ⟨rn, RL⟩ := RR
  unfold HRes at HC ⊢
  simp only at HC ⊢
  clear hs ht
  go_enter Try.func65, Try.ntmps65
  go_wp2_with fail
  refine HC.out.mono ?_
  rintro e w1 ⟨⟨l3, A3, c3, rfl, hs3, ht3, hc3⟩, hb⟩
  have hB1 := since_step hB0 hb
  go_wp2_with fail
  go_ret2
  exact ⟨⟨l3, A3, c3, rfl, hs3, ht3, hc3⟩, hB1⟩
set_option maxHeartbeats 8000000 in
set_option maxRecDepth 100000 in
theorem hchange_take (A : Option Addr) (cap : Nat) (l : List Hd) (cs : List Hc) (a c xa xt xq : Int) (w : World) (hl : l.length ≤ 900000) (hcl : ∀ g ∈ cs, g.L.length ≤ 900000) (hx : In64 xq) (h6 : ∀ g ∈ cs, ∀ y ∈ g.L, In64 y.qty) (hs : Sl w A (rc Hd.cells l)) (ht : HdTab w l cs) :
    Calls Try.prog 129 #[.slice A l.length cap, .agg #[.int .i64 a, .int .i64 c], .agg #[.int .i64 xa, .int .i64 xt, .int .i64 xq], .func (.func 133) #[] #[]] w fun e w' => HRes w' e (chgHR (fun m => takeLR m ⟨xa, xt, xq⟩) cs a c) ∧ Below w.heap.size w w' := by
  have hB0 := since_alloc (since_alloc (Below.refl _ w) (.cells #[.int .i64 a, .int .i64 c] 24)) (.cells #[.int .i64 xa, .int .i64 xt, .int .i64 xq] 93)
  have hK1 := (Bk.new w #[.int .i64 a, .int .i64 c] 24).alloc (.cells #[.int .i64 xa, .int .i64 xt, .int .i64 xq] 93)
  have hK2 := Bk.new (w.alloc (.cells #[.int .i64 a, .int .i64 c] 24)) #[.int .i64 xa, .int .i64 xt, .int .i64 xq] 93
  rw [World.size_alloc] at hK2
  have HIS := Lib.hid (his_any A cap l cs _ hl hcl ((hs.alloc (.cells #[.int .i64 a, .int .i64 c] 24)).alloc (.cells #[.int .i64 xa, .int .i64 xt, .int .i64 xq] 93)) (ht.below hB0))
  have HSL : Hid (∀ V, Below w.heap.size w V → Sl V A (rc Hd.cells l)) := Lib.hid fun V hV => hs.below hV
  have HTB : Hid (∀ V, Below w.heap.size w V → HdTab V l cs) := Lib.hid fun V hV => ht.below hV
  have HLO := Lib.hid (fun V h1 h2 => hlots_any A cap l cs a c V hl hcl h1 h2)
  have hlen := lotsH_len hcl a c
  have hl6 := lots_in6 h6 a c
  have HHO := Lib.hid (fun A1 c1 V h1 => ltake_any A1 c1 (lotsH cs a c) ⟨xa, xt, xq⟩ V hlen hx hl6 h1)
  obtain ⟨rn, RL, hR⟩ : ∃ rn RL, takeLR (lotsH cs a c) ⟨xa, xt, xq⟩ = (rn, RL) := ⟨_, _, rfl⟩
  rw [hR] at HHO
  unfold LRes Lt.val at HHO
  simp only at HHO
  clear hs ht
  have hF : Ent Try.prog 133 := Ent.of (by kernel_rfl)
  cases hi : isH cs with
  | false =>
    have HR := Lib.hid (chgHR_form (how := fun m => takeLR m ⟨xa, xt, xq⟩) (a := a) (c := c) hi)
    rw [hi] at HIS
    clear hi hR
    go_enter Try.func129, Try.ntmps129
    go_wp2_with fail
    refine HIS.out.mono ?_
    rintro e w1 ⟨rfl, hb⟩
    have hB1 := since_step hB0 hb
    go_wp2_with fail
    go_ret2
    rw [HR.out]
    exact ⟨HRes.nil _ _, hB1⟩
  | true =>
    rw [hi] at HIS
    by_cases hn : rn = 0
    rotate_left
    · have HR := Lib.hid (chgHR_err (how := fun m => takeLR m ⟨xa, xt, xq⟩) hi hR hn)
      have hnb : (rn != 0) = true := by simpa using hn
      have hnb2 : (rn == 0) = false := by simpa using hn
      clear hi hR hn
      go_enter Try.func129, Try.ntmps129
      go_wp2_with fail
      refine HIS.out.mono ?_
      rintro e w1 ⟨rfl, hb⟩
      have hB1 := since_step hB0 hb
      have HK1 : Hid (∀ V, Below w1.heap.size w1 V → Bk V w.heap.size #[.int .i64 a, .int .i64 c]) := Lib.hid fun V hV => (hK1.below hb).below hV
      have HK2 : Hid (∀ V, Below w1.heap.size w1 V → Bk V (w.heap.size + 1) #[.int .i64 xa, .int .i64 xt, .int .i64 xq]) := Lib.hid fun V hV => (hK2.below hb).below hV
      generalize lotsH cs a c = L0 at *
      clear hb hK1 hK2
      go_wp2_with fail
      refine wp_region_held_drew (S := (fun V => Below w.heap.size w V ∧ Below w1.heap.size w1 V)) (by kernel_rfl) (by exact ⟨hB1.drew, (Below.refl _ _).drew⟩) (fun hHeld => ?_)
      refine wpAnyH_take (i := 0) (oi := { dst := some 16, op := _, type := _, pos := _, after := _, guard := _ }) (v := ?_) rfl (by kernel_rfl) (by kernel_rfl) (by kernel_rfl) (fun _ _ _ h => h) (Or.inl ⟨by rfl, ?_⟩) hHeld ?_
      rotate_left
      · (intro w hSw; have ck := (HK1.out _ (hSw).2).2; have k0 := ck 0; have k1 := ck 1; simp at k0 k1; clear ck; have cq := (HK2.out _ (hSw).2).2; have k2 := cq 0; have k3 := cq 1; have k4 := cq 2; simp at k2 k3 k4; clear cq; go_simp <;> with_reducible rfl)
      try simp only [Act.put, List.setIfInBounds_toArray, List.set_cons_zero, List.set_cons_succ]
      refine wpAnyH_take (i := 1) (oi := { dst := some 17, op := _, type := _, pos := _, after := _, guard := _ }) (v := ?_) rfl (by kernel_rfl) (by kernel_rfl) (by kernel_rfl) (fun _ _ _ h => h) (Or.inl ⟨by rfl, ?_⟩) hHeld ?_
      rotate_left
      · (intro w hSw; have ck := (HK1.out _ (hSw).2).2; have k0 := ck 0; have k1 := ck 1; simp at k0 k1; clear ck; have cq := (HK2.out _ (hSw).2).2; have k2 := cq 0; have k3 := cq 1; have k4 := cq 2; simp at k2 k3 k4; clear cq; go_simp <;> with_reducible rfl)
      try simp only [Act.put, List.setIfInBounds_toArray, List.set_cons_zero, List.set_cons_succ]
      refine wpAnyH_take (i := 2) (oi := { dst := some 18, op := _, type := _, pos := _, after := _, guard := _ }) (v := ?_) rfl (by kernel_rfl) (by kernel_rfl) (by kernel_rfl) (fun _ _ _ h => h) (Or.inl ⟨by rfl, ?_⟩) hHeld ?_
      rotate_left
      · (intro w hSw; have ck := (HK1.out _ (hSw).2).2; have k0 := ck 0; have k1 := ck 1; simp at k0 k1; clear ck; have cq := (HK2.out _ (hSw).2).2; have k2 := cq 0; have k3 := cq 1; have k4 := cq 2; simp at k2 k3 k4; clear cq; go_simp <;> with_reducible rfl)
      try simp only [Act.put, List.setIfInBounds_toArray, List.set_cons_zero, List.set_cons_succ]
      refine wpAnyH_take (i := 4) (oi := { dst := some 20, op := _, type := _, pos := _, after := _, guard := _ }) (v := ?_) rfl (by kernel_rfl) (by kernel_rfl) (by kernel_rfl) (fun _ _ _ h => h) (Or.inl ⟨by rfl, ?_⟩) hHeld ?_
      rotate_left
      · (intro w hSw; have ck := (HK1.out _ (hSw).2).2; have k0 := ck 0; have k1 := ck 1; simp at k0 k1; clear ck; have cq := (HK2.out _ (hSw).2).2; have k2 := cq 0; have k3 := cq 1; have k4 := cq 2; simp at k2 k3 k4; clear cq; go_simp <;> with_reducible rfl)
      try simp only [Act.put, List.setIfInBounds_toArray, List.set_cons_zero, List.set_cons_succ]
      refine wpAnyH_ready (rs := [3]) (by kernel_rfl) (by simp) ?_
      refine AllReadyH.cons (o := { dst := some 19, op := _, type := _, pos := _, after := _, guard := _ }) rfl (fun K hK => ?_) AllReadyH.nil
      go_simp
      refine (HLO.out _ (HSL.out _ hHeld.1) (HTB.out _ hHeld.1)).mono ?_
      rintro e u1 ⟨⟨A1, c1, rfl, ho1⟩, hk1⟩
      have hKeep := And.intro (since_step hHeld.1 hk1) (since_step hHeld.2 hk1)
      have hs1 := Sl.of_own ho1
      clear ho1
      go_wp2_with fail
      refine hK.out _ _ (by (try dsimp only); exact hKeep) (fun hHeld => ?_)
      clear hK K hKeep
      try simp only [Act.put, List.setIfInBounds_toArray, List.set_cons_zero, List.set_cons_succ]
      refine wpAnyH_ready (rs := [5]) (by kernel_rfl) (by simp) ?_
      refine AllReadyH.cons (o := { dst := some 21, op := _, type := _, pos := _, after := _, guard := _ }) rfl (fun K hK => ?_) AllReadyH.nil
      go_simp
      refine (HHO.out A1 c1 _ hs1).mono ?_
      rintro e u2 ⟨⟨A2, c2, rfl, ho2⟩, hk2⟩
      have hKeep := And.intro (since_step hHeld.1 hk2) (since_step hHeld.2 hk2)
      go_wp2_with fail
      refine hK.out _ _ (by (try dsimp only); exact hKeep) (fun hHeld => ?_)
      clear hK K hKeep
      try simp only [Act.put, List.setIfInBounds_toArray, List.set_cons_zero, List.set_cons_succ]
      refine wpAnyH_take (i := 6) (oi := { dst := some 15, op := _, type := _, pos := _, after := _, guard := _ }) (v := ?_) rfl (by kernel_rfl) (by kernel_rfl) (by kernel_rfl) (fun _ _ _ h => h) (Or.inl ⟨by rfl, ?_⟩) hHeld ?_
      rotate_left
      · (intro w hSw; have ck := (HK1.out _ (hSw).2).2; have k0 := ck 0; have k1 := ck 1; simp at k0 k1; clear ck; have cq := (HK2.out _ (hSw).2).2; have k2 := cq 0; have k3 := cq 1; have k4 := cq 2; simp at k2 k3 k4; clear cq; go_simp <;> with_reducible rfl)
      try simp only [Act.put, List.setIfInBounds_toArray, List.set_cons_zero, List.set_cons_succ]
      refine wpAnyH_take (i := 7) (oi := { dst := some 22, op := _, type := _, pos := _, after := _, guard := _ }) (v := ?_) rfl (by kernel_rfl) (by kernel_rfl) (by kernel_rfl) (fun _ _ _ h => h) (Or.inl ⟨by rfl, ?_⟩) hHeld ?_
      rotate_left
      · (intro w hSw; have ck := (HK1.out _ (hSw).2).2; have k0 := ck 0; have k1 := ck 1; simp at k0 k1; clear ck; have cq := (HK2.out _ (hSw).2).2; have k2 := cq 0; have k3 := cq 1; have k4 := cq 2; simp at k2 k3 k4; clear cq; go_simp <;> with_reducible rfl)
      try simp only [Act.put, List.setIfInBounds_toArray, List.set_cons_zero, List.set_cons_succ]
      refine wpAnyH_take (i := 8) (oi := { dst := some 23, op := _, type := _, pos := _, after := _, guard := _ }) (v := ?_) rfl (by kernel_rfl) (by kernel_rfl) (by kernel_rfl) (fun _ _ _ h => h) (Or.inl ⟨by rfl, ?_⟩) hHeld ?_
      rotate_left
      · (intro w hSw; have ck := (HK1.out _ (hSw).2).2; have k0 := ck 0; have k1 := ck 1; simp at k0 k1; clear ck; have cq := (HK2.out _ (hSw).2).2; have k2 := cq 0; have k3 := cq 1; have k4 := cq 2; simp at k2 k3 k4; clear cq; go_simp <;> with_reducible rfl)
      try simp only [Act.put, List.setIfInBounds_toArray, List.set_cons_zero, List.set_cons_succ]
      refine wpAnyH_take (i := 9) (oi := { dst := some 10, op := _, type := _, pos := _, after := _, guard := _ }) (v := ?_) rfl (by kernel_rfl) (by kernel_rfl) (by kernel_rfl) (fun _ _ _ h => h) (Or.inl ⟨by rfl, ?_⟩) hHeld ?_
      rotate_left
      · (intro w hSw; have ck := (HK1.out _ (hSw).2).2; have k0 := ck 0; have k1 := ck 1; simp at k0 k1; clear ck; have cq := (HK2.out _ (hSw).2).2; have k2 := cq 0; have k3 := cq 1; have k4 := cq 2; simp at k2 k3 k4; clear cq; go_simp <;> with_reducible rfl)
      try simp only [Act.put, List.setIfInBounds_toArray, List.set_cons_zero, List.set_cons_succ]
      refine wpAnyH_take (i := 10) (oi := { dst := some 11, op := _, type := _, pos := _, after := _, guard := _ }) (v := ?_) rfl (by kernel_rfl) (by kernel_rfl) (by kernel_rfl) (fun _ _ _ h => h) (Or.inl ⟨by rfl, ?_⟩) hHeld ?_
      rotate_left
      · (intro w hSw; have ck := (HK1.out _ (hSw).2).2; have k0 := ck 0; have k1 := ck 1; simp at k0 k1; clear ck; have cq := (HK2.out _ (hSw).2).2; have k2 := cq 0; have k3 := cq 1; have k4 := cq 2; simp at k2 k3 k4; clear cq; go_simp <;> with_reducible rfl)
      try simp only [Act.put, List.setIfInBounds_toArray, List.set_cons_zero, List.set_cons_succ]
      refine wpAnyH_done (by kernel_rfl) ?_ _
      have hBz := hHeld.1
      go_wp2_with fail
      go_ret2
      rw [HR.out]
      exact ⟨HRes.nil _ _, hBz⟩

    · subst hn
      have hRi : isLs RL = true := (take_is hR).1
      have hRl := isLs_le hRi
      have hso := isH_sorted hi
      have HR := Lib.hid (chgHR_ok (how := fun m => takeLR m ⟨xa, xt, xq⟩) hi hR)
      have HWI := Lib.hid (fun A2 c2 V h1 h2 h3 => hset_any A cap l cs a c A2 c2 RL V hl hcl hRl h1 h2 h3)
      rw [setHR_ok hi hRi] at HWI
      clear hi hR
      go_enter Try.func129, Try.ntmps129
      go_wp2_with fail
      refine HIS.out.mono ?_
      rintro e w1 ⟨rfl, hb⟩
      have hB1 := since_step hB0 hb
      have HK1 : Hid (∀ V, Below w1.heap.size w1 V → Bk V w.heap.size #[.int .i64 a, .int .i64 c]) := Lib.hid fun V hV => (hK1.below hb).below hV
      have HK2 : Hid (∀ V, Below w1.heap.size w1 V → Bk V (w.heap.size + 1) #[.int .i64 xa, .int .i64 xt, .int .i64 xq]) := Lib.hid fun V hV => (hK2.below hb).below hV
      generalize lotsH cs a c = L0 at *
      clear hb hK1 hK2
      go_wp2_with fail
      refine wp_region_held_drew (S := (fun V => Below w.heap.size w V ∧ Below w1.heap.size w1 V)) (by kernel_rfl) (by exact ⟨hB1.drew, (Below.refl _ _).drew⟩) (fun hHeld => ?_)
      refine wpAnyH_take (i := 0) (oi := { dst := some 16, op := _, type := _, pos := _, after := _, guard := _ }) (v := ?_) rfl (by kernel_rfl) (by kernel_rfl) (by kernel_rfl) (fun _ _ _ h => h) (Or.inl ⟨by rfl, ?_⟩) hHeld ?_
      rotate_left
      · (intro w hSw; have ck := (HK1.out _ (hSw).2).2; have k0 := ck 0; have k1 := ck 1; simp at k0 k1; clear ck; have cq := (HK2.out _ (hSw).2).2; have k2 := cq 0; have k3 := cq 1; have k4 := cq 2; simp at k2 k3 k4; clear cq; go_simp <;> with_reducible rfl)
      try simp only [Act.put, List.setIfInBounds_toArray, List.set_cons_zero, List.set_cons_succ]
      refine wpAnyH_take (i := 1) (oi := { dst := some 17, op := _, type := _, pos := _, after := _, guard := _ }) (v := ?_) rfl (by kernel_rfl) (by kernel_rfl) (by kernel_rfl) (fun _ _ _ h => h) (Or.inl ⟨by rfl, ?_⟩) hHeld ?_
      rotate_left
      · (intro w hSw; have ck := (HK1.out _ (hSw).2).2; have k0 := ck 0; have k1 := ck 1; simp at k0 k1; clear ck; have cq := (HK2.out _ (hSw).2).2; have k2 := cq 0; have k3 := cq 1; have k4 := cq 2; simp at k2 k3 k4; clear cq; go_simp <;> with_reducible rfl)
      try simp only [Act.put, List.setIfInBounds_toArray, List.set_cons_zero, List.set_cons_succ]
      refine wpAnyH_take (i := 2) (oi := { dst := some 18, op := _, type := _, pos := _, after := _, guard := _ }) (v := ?_) rfl (by kernel_rfl) (by kernel_rfl) (by kernel_rfl) (fun _ _ _ h => h) (Or.inl ⟨by rfl, ?_⟩) hHeld ?_
      rotate_left
      · (intro w hSw; have ck := (HK1.out _ (hSw).2).2; have k0 := ck 0; have k1 := ck 1; simp at k0 k1; clear ck; have cq := (HK2.out _ (hSw).2).2; have k2 := cq 0; have k3 := cq 1; have k4 := cq 2; simp at k2 k3 k4; clear cq; go_simp <;> with_reducible rfl)
      try simp only [Act.put, List.setIfInBounds_toArray, List.set_cons_zero, List.set_cons_succ]
      refine wpAnyH_take (i := 4) (oi := { dst := some 20, op := _, type := _, pos := _, after := _, guard := _ }) (v := ?_) rfl (by kernel_rfl) (by kernel_rfl) (by kernel_rfl) (fun _ _ _ h => h) (Or.inl ⟨by rfl, ?_⟩) hHeld ?_
      rotate_left
      · (intro w hSw; have ck := (HK1.out _ (hSw).2).2; have k0 := ck 0; have k1 := ck 1; simp at k0 k1; clear ck; have cq := (HK2.out _ (hSw).2).2; have k2 := cq 0; have k3 := cq 1; have k4 := cq 2; simp at k2 k3 k4; clear cq; go_simp <;> with_reducible rfl)
      try simp only [Act.put, List.setIfInBounds_toArray, List.set_cons_zero, List.set_cons_succ]
      refine wpAnyH_ready (rs := [3]) (by kernel_rfl) (by simp) ?_
      refine AllReadyH.cons (o := { dst := some 19, op := _, type := _, pos := _, after := _, guard := _ }) rfl (fun K hK => ?_) AllReadyH.nil
      go_simp
      refine (HLO.out _ (HSL.out _ hHeld.1) (HTB.out _ hHeld.1)).mono ?_
      rintro e u1 ⟨⟨A1, c1, rfl, ho1⟩, hk1⟩
      have hKeep := And.intro (since_step hHeld.1 hk1) (since_step hHeld.2 hk1)
      have hs1 := Sl.of_own ho1
      clear ho1
      go_wp2_with fail
      refine hK.out _ _ (by (try dsimp only); exact hKeep) (fun hHeld => ?_)
      clear hK K hKeep
      try simp only [Act.put, List.setIfInBounds_toArray, List.set_cons_zero, List.set_cons_succ]
      refine wpAnyH_ready (rs := [5]) (by kernel_rfl) (by simp) ?_
      refine AllReadyH.cons (o := { dst := some 21, op := _, type := _, pos := _, after := _, guard := _ }) rfl (fun K hK => ?_) AllReadyH.nil
      go_simp
      refine (HHO.out A1 c1 _ hs1).mono ?_
      rintro e u2 ⟨⟨A2, c2, rfl, ho2⟩, hk2⟩
      have hKeep := And.intro (since_step hHeld.1 hk2) (since_step hHeld.2 hk2)
      go_wp2_with fail
      refine hK.out _ _ (by (try dsimp only); exact hKeep) (fun hHeld => ?_)
      clear hK K hKeep
      try simp only [Act.put, List.setIfInBounds_toArray, List.set_cons_zero, List.set_cons_succ]
      refine wpAnyH_take (i := 6) (oi := { dst := some 15, op := _, type := _, pos := _, after := _, guard := _ }) (v := ?_) rfl (by kernel_rfl) (by kernel_rfl) (by kernel_rfl) (fun _ _ _ h => h) (Or.inl ⟨by rfl, ?_⟩) hHeld ?_
      rotate_left
      · (intro w hSw; have ck := (HK1.out _ (hSw).2).2; have k0 := ck 0; have k1 := ck 1; simp at k0 k1; clear ck; have cq := (HK2.out _ (hSw).2).2; have k2 := cq 0; have k3 := cq 1; have k4 := cq 2; simp at k2 k3 k4; clear cq; go_simp <;> with_reducible rfl)
      try simp only [Act.put, List.setIfInBounds_toArray, List.set_cons_zero, List.set_cons_succ]
      refine wpAnyH_take (i := 7) (oi := { dst := some 22, op := _, type := _, pos := _, after := _, guard := _ }) (v := ?_) rfl (by kernel_rfl) (by kernel_rfl) (by kernel_rfl) (fun _ _ _ h => h) (Or.inl ⟨by rfl, ?_⟩) hHeld ?_
      rotate_left
      · (intro w hSw; have ck := (HK1.out _ (hSw).2).2; have k0 := ck 0; have k1 := ck 1; simp at k0 k1; clear ck; have cq := (HK2.out _ (hSw).2).2; have k2 := cq 0; have k3 := cq 1; have k4 := cq 2; simp at k2 k3 k4; clear cq; go_simp <;> with_reducible rfl)
      try simp only [Act.put, List.setIfInBounds_toArray, List.set_cons_zero, List.set_cons_succ]
      refine wpAnyH_take (i := 8) (oi := { dst := some 23, op := _, type := _, pos := _, after := _, guard := _ }) (v := ?_) rfl (by kernel_rfl) (by kernel_rfl) (by kernel_rfl) (fun _ _ _ h => h) (Or.inl ⟨by rfl, ?_⟩) hHeld ?_
      rotate_left
      · (intro w hSw; have ck := (HK1.out _ (hSw).2).2; have k0 := ck 0; have k1 := ck 1; simp at k0 k1; clear ck; have cq := (HK2.out _ (hSw).2).2; have k2 := cq 0; have k3 := cq 1; have k4 := cq 2; simp at k2 k3 k4; clear cq; go_simp <;> with_reducible rfl)
      try simp only [Act.put, List.setIfInBounds_toArray, List.set_cons_zero, List.set_cons_succ]
      refine wpAnyH_take (i := 9) (oi := { dst := some 10, op := _, type := _, pos := _, after := _, guard := _ }) (v := ?_) rfl (by kernel_rfl) (by kernel_rfl) (by kernel_rfl) (fun _ _ _ h => h) (Or.inl ⟨by rfl, ?_⟩) hHeld ?_
      rotate_left
      · (intro w hSw; have ck := (HK1.out _ (hSw).2).2; have k0 := ck 0; have k1 := ck 1; simp at k0 k1; clear ck; have cq := (HK2.out _ (hSw).2).2; have k2 := cq 0; have k3 := cq 1; have k4 := cq 2; simp at k2 k3 k4; clear cq; go_simp <;> with_reducible rfl)
      try simp only [Act.put, List.setIfInBounds_toArray, List.set_cons_zero, List.set_cons_succ]
      refine wpAnyH_take (i := 10) (oi := { dst := some 11, op := _, type := _, pos := _, after := _, guard := _ }) (v := ?_) rfl (by kernel_rfl) (by kernel_rfl) (by kernel_rfl) (fun _ _ _ h => h) (Or.inl ⟨by rfl, ?_⟩) hHeld ?_
      rotate_left
      · (intro w hSw; have ck := (HK1.out _ (hSw).2).2; have k0 := ck 0; have k1 := ck 1; simp at k0 k1; clear ck; have cq := (HK2.out _ (hSw).2).2; have k2 := cq 0; have k3 := cq 1; have k4 := cq 2; simp at k2 k3 k4; clear cq; go_simp <;> with_reducible rfl)
      try simp only [Act.put, List.setIfInBounds_toArray, List.set_cons_zero, List.set_cons_succ]
      refine wpAnyH_done (by kernel_rfl) ?_ _
      have hBz := hHeld.1
      have ck := (HK1.out _ hHeld.2).2
      have k0 := ck 0
      have k1 := ck 1
      simp at k0 k1
      clear ck
      have hs2 := Sl.of_own ho2
      have HW := Lib.hid (HWI.out A2 c2 _ (HSL.out _ hBz) (HTB.out _ hBz) hs2)
      go_wp2_with fail
      refine HW.out.mono ?_
      rintro e u3 ⟨⟨l3, A3, c3, rfl, hs3, ht3, hc3⟩, hk3⟩
      have hBz := since_step hBz hk3
      go_wp2_with fail
      go_ret2
      rw [HR.out]
      exact ⟨⟨l3, A3, c3, rfl, hs3, ht3, hc3⟩, hBz⟩
set_option maxHeartbeats 4000000 in
set_option maxRecDepth 100000 in
theorem htake_any (A : Option Addr) (cap : Nat) (l : List Hd) (cs : List Hc) (a c xa xt xq : Int) (w : World) (hl : l.length ≤ 900000) (hcl : ∀ g ∈ cs, g.L.length ≤ 900000) (hx : In64 xq) (h6 : ∀ g ∈ cs, ∀ y ∈ g.L, In64 y.qty) (hs : Sl w A (rc Hd.cells l)) (ht : HdTab w l cs) :
    Calls Try.prog 67 #[.slice A l.length cap, .agg #[.int .i64 a, .int .i64 c], .agg #[.int .i64 xa, .int .i64 xt, .int .i64 xq]] w fun e w' => HRes w' e (chgHR (fun m => takeLR m ⟨xa, xt, xq⟩) cs a c) ∧ Below w.heap.size w w' := by
  have hB0 := since_alloc (since_alloc (Below.refl _ w) (.cells #[.int .i64 a, .int .i64 c] 24)) (.cells #[.int .i64 xa, .int .i64 xt, .int .i64 xq] 93)
  have hK1 := (Bk.new w #[.int .i64 a, .int .i64 c] 24).alloc (.cells #[.int .i64 xa, .int .i64 xt, .int .i64 xq] 93)
  have hK2 := Bk.new (w.alloc (.cells #[.int .i64 a, .int .i64 c] 24)) #[.int .i64 xa, .int .i64 xt, .int .i64 xq] 93
  rw [World.size_alloc] at hK2
  have HC := Lib.hid (hchange_take A cap l cs a c xa xt xq _ hl hcl hx h6 ((hs.alloc (.cells #[.int .i64 a, .int .i64 c] 24)).alloc (.cells #[.int .i64 xa, .int .i64 xt, .int .i64 xq] 93)) (ht.below hB0))
  generalize chgHR (fun m => takeLR m ⟨xa, xt, xq⟩) cs a c = RR at *
  obtain ⟨rn, RL⟩ := RR
  unfold HRes at HC ⊢
  simp only at HC ⊢
  clear hs ht
  go_enter Try.func67, Try.ntmps67
  go_wp2_with fail
  refine HC.out.mono ?_
  rintro e w1 ⟨⟨l3, A3, c3, rfl, hs3, ht3, hc3⟩, hb⟩
  have hB1 := since_step hB0 hb
  go_wp2_with fail
  go_ret2
  exact ⟨⟨l3, A3, c3, rfl, hs3, ht3, hc3⟩, hB1⟩
set_option maxHeartbeats 8000000 in
set_option maxRecDepth 100000 in
theorem rhput_any (A : Option Addr) (cap : Nat) (l : List Hd) (cs : List Hc) (a c xa xt xq : Int) (w : World) (hl : l.length ≤ 900000) (hcl : ∀ g ∈ cs, g.L.length ≤ 900000) (hx : In64 xq) (h6 : ∀ g ∈ cs, ∀ y ∈ g.L, In64 y.qty) (hcap : CapH A l.length cap) (hs : Sl w A (rc Hd.cells l)) (ht : HdTab w l cs) :
    Calls Try.prog 66 #[.slice A l.length cap, .agg #[.int .i64 a, .int .i64 c], .agg #[.int .i64 xa, .int .i64 xt, .int .i64 xq]] w fun e w' => HRes w' e (chgHR (fun m => putLR m ⟨xa, xt, xq⟩) cs a c) ∧ Below w.heap.size w w' := by
  have hB0 := since_alloc (since_alloc (Below.refl _ w) (.cells #[.int .i64 a, .int .i64 c] 24)) (.cells #[.int .i64 xa, .int .i64 xt, .int .i64 xq] 93)
  have hK1 := (Bk.new w #[.int .i64 a, .int .i64 c] 24).alloc (.cells #[.int .i64 xa, .int .i64 xt, .int .i64 xq] 93)
  have hK2 := Bk.new (w.alloc (.cells #[.int .i64 a, .int .i64 c] 24)) #[.int .i64 xa, .int .i64 xt, .int .i64 xq] 93
  rw [World.size_alloc] at hK2
  have HIS := Lib.hid (rhis_any A cap l cs _ hl hcl ((hs.alloc (.cells #[.int .i64 a, .int .i64 c] 24)).alloc (.cells #[.int .i64 xa, .int .i64 xt, .int .i64 xq] 93)) (ht.below hB0))
  have HSL : Hid (∀ V, Below w.heap.size w V → Sl V A (rc Hd.cells l)) := Lib.hid fun V hV => hs.below hV
  have HTB : Hid (∀ V, Below w.heap.size w V → HdTab V l cs) := Lib.hid fun V hV => ht.below hV
  have HLO := Lib.hid (fun V h1 h2 => rhlots_any A cap l cs a c V hl h1 h2)
  have hlen := lotsH_len hcl a c
  have hl6 := lots_in6 h6 a c
  have HHO := Lib.hid (fun A1 c1 V h1 => rput_any A1 c1 (lotsH cs a c) ⟨xa, xt, xq⟩ V hlen hx hl6 h1)
  obtain ⟨rn, RL, hR⟩ : ∃ rn RL, putLR (lotsH cs a c) ⟨xa, xt, xq⟩ = (rn, RL) := ⟨_, _, rfl⟩
  rw [hR] at HHO
  unfold LRes Lt.val at HHO
  simp only at HHO
  clear hs ht
  cases hi : isH cs with
  | false =>
    have HR := Lib.hid (chgHR_form (how := fun m => putLR m ⟨xa, xt, xq⟩) (a := a) (c := c) hi)
    rw [hi] at HIS
    clear hi hR
    go_enter Try.func66, Try.ntmps66
    go_wp2_with fail
    refine HIS.out.mono ?_
    rintro e w1 ⟨rfl, hb⟩
    have hB1 := since_step hB0 hb
    go_wp2_with fail
    go_ret2
    rw [HR.out]
    exact ⟨HRes.nil _ _, hB1⟩
  | true =>
    rw [hi] at HIS
    by_cases hn : rn = 0
    rotate_left
    · have HR := Lib.hid (chgHR_err (how := fun m => putLR m ⟨xa, xt, xq⟩) hi hR hn)
      have hnb : (rn != 0) = true := by simpa using hn
      have hnb2 : (rn == 0) = false := by simpa using hn
      clear hi hR hn
      go_enter Try.func66, Try.ntmps66
      go_wp2_with fail
      refine HIS.out.mono ?_
      rintro e w1 ⟨rfl, hb⟩
      have hB1 := since_step hB0 hb
      have HK1 : Hid (∀ V, Below w1.heap.size w1 V → Bk V w.heap.size #[.int .i64 a, .int .i64 c]) := Lib.hid fun V hV => (hK1.below hb).below hV
      have HK2 : Hid (∀ V, Below w1.heap.size w1 V → Bk V (w.heap.size + 1) #[.int .i64 xa, .int .i64 xt, .int .i64 xq]) := Lib.hid fun V hV => (hK2.below hb).below hV
      generalize lotsH cs a c = L0 at *
      clear hb hK1 hK2
      go_wp2_with fail
      refine wp_region_held_drew (S := (fun V => Below w.heap.size w V ∧ Below w1.heap.size w1 V)) (by kernel_rfl) (by exact ⟨hB1.drew, (Below.refl _ _).drew⟩) (fun hHeld => ?_)
      refine wpAnyH_take (i := 0) (oi := { dst := some 14, op := _, type := _, pos := _, after := _, guard := _ }) (v := ?_) rfl (by kernel_rfl) (by kernel_rfl) (by kernel_rfl) (fun _ _ _ h => h) (Or.inl ⟨by rfl, ?_⟩) hHeld ?_
      rotate_left
      · (intro w hSw; have ck := (HK1.out _ (hSw).2).2; have k0 := ck 0; have k1 := ck 1; simp at k0 k1; clear ck; have cq := (HK2.out _ (hSw).2).2; have k2 := cq 0; have k3 := cq 1; have k4 := cq 2; simp at k2 k3 k4; clear cq; go_simp <;> with_reducible rfl)
      try simp only [Act.put, List.setIfInBounds_toArray, List.set_cons_zero, List.set_cons_succ]
      refine wpAnyH_take (i := 1) (oi := { dst := some 15, op := _, type := _, pos := _, after := _, guard := _ }) (v := ?_) rfl (by kernel_rfl) (by kernel_rfl) (by kernel_rfl) (fun _ _ _ h => h) (Or.inl ⟨by rfl, ?_⟩) hHeld ?_
      rotate_left
      · (intro w hSw; have ck := (HK1.out _ (hSw).2).2; have k0 := ck 0; have k1 := ck 1; simp at k0 k1; clear ck; have cq := (HK2.out _ (hSw).2).2; have k2 := cq 0; have k3 := cq 1; have k4 := cq 2; simp at k2 k3 k4; clear cq; go_simp <;> with_reducible rfl)
      try simp only [Act.put, List.setIfInBounds_toArray, List.set_cons_zero, List.set_cons_succ]
      refine wpAnyH_take (i := 3) (oi := { dst := some 17, op := _, type := _, pos := _, after := _, guard := _ }) (v := ?_) rfl (by kernel_rfl) (by kernel_rfl) (by kernel_rfl) (fun _ _ _ h => h) (Or.inl ⟨by rfl, ?_⟩) hHeld ?_
      rotate_left
      · (intro w hSw; have ck := (HK1.out _ (hSw).2).2; have k0 := ck 0; have k1 := ck 1; simp at k0 k1; clear ck; have cq := (HK2.out _ (hSw).2).2; have k2 := cq 0; have k3 := cq 1; have k4 := cq 2; simp at k2 k3 k4; clear cq; go_simp <;> with_reducible rfl)
      try simp only [Act.put, List.setIfInBounds_toArray, List.set_cons_zero, List.set_cons_succ]
      refine wpAnyH_ready (rs := [2]) (by kernel_rfl) (by simp) ?_
      refine AllReadyH.cons (o := { dst := some 16, op := _, type := _, pos := _, after := _, guard := _ }) rfl (fun K hK => ?_) AllReadyH.nil
      go_simp
      refine (HLO.out _ (HSL.out _ hHeld.1) (HTB.out _ hHeld.1)).mono ?_
      rintro e u1 ⟨⟨A1, c1, rfl, ho1⟩, hk1⟩
      have hKeep := And.intro (since_step hHeld.1 hk1) (since_step hHeld.2 hk1)
      have hs1 := ho1
      clear ho1
      go_wp2_with fail
      refine hK.out _ _ (by (try dsimp only); exact hKeep) (fun hHeld => ?_)
      clear hK K hKeep
      try simp only [Act.put, List.setIfInBounds_toArray, List.set_cons_zero, List.set_cons_succ]
      refine wpAnyH_ready (rs := [4]) (by kernel_rfl) (by simp) ?_
      refine AllReadyH.cons (o := { dst := some 18, op := _, type := _, pos := _, after := _, guard := _ }) rfl (fun K hK => ?_) AllReadyH.nil
      go_simp
      refine (HHO.out A1 c1 _ hs1).mono ?_
      rintro e u2 ⟨⟨A2, c2, rfl, ho2⟩, hk2⟩
      have hKeep := And.intro (since_step hHeld.1 hk2) (since_step hHeld.2 hk2)
      go_wp2_with fail
      refine hK.out _ _ (by (try dsimp only); exact hKeep) (fun hHeld => ?_)
      clear hK K hKeep
      try simp only [Act.put, List.setIfInBounds_toArray, List.set_cons_zero, List.set_cons_succ]
      refine wpAnyH_take (i := 5) (oi := { dst := some 13, op := _, type := _, pos := _, after := _, guard := _ }) (v := ?_) rfl (by kernel_rfl) (by kernel_rfl) (by kernel_rfl) (fun _ _ _ h => h) (Or.inl ⟨by rfl, ?_⟩) hHeld ?_
      rotate_left
      · (intro w hSw; have ck := (HK1.out _ (hSw).2).2; have k0 := ck 0; have k1 := ck 1; simp at k0 k1; clear ck; have cq := (HK2.out _ (hSw).2).2; have k2 := cq 0; have k3 := cq 1; have k4 := cq 2; simp at k2 k3 k4; clear cq; go_simp <;> with_reducible rfl)
      try simp only [Act.put, List.setIfInBounds_toArray, List.set_cons_zero, List.set_cons_succ]
      refine wpAnyH_take (i := 6) (oi := { dst := some 19, op := _, type := _, pos := _, after := _, guard := _ }) (v := ?_) rfl (by kernel_rfl) (by kernel_rfl) (by kernel_rfl) (fun _ _ _ h => h) (Or.inl ⟨by rfl, ?_⟩) hHeld ?_
      rotate_left
      · (intro w hSw; have ck := (HK1.out _ (hSw).2).2; have k0 := ck 0; have k1 := ck 1; simp at k0 k1; clear ck; have cq := (HK2.out _ (hSw).2).2; have k2 := cq 0; have k3 := cq 1; have k4 := cq 2; simp at k2 k3 k4; clear cq; go_simp <;> with_reducible rfl)
      try simp only [Act.put, List.setIfInBounds_toArray, List.set_cons_zero, List.set_cons_succ]
      refine wpAnyH_take (i := 7) (oi := { dst := some 20, op := _, type := _, pos := _, after := _, guard := _ }) (v := ?_) rfl (by kernel_rfl) (by kernel_rfl) (by kernel_rfl) (fun _ _ _ h => h) (Or.inl ⟨by rfl, ?_⟩) hHeld ?_
      rotate_left
      · (intro w hSw; have ck := (HK1.out _ (hSw).2).2; have k0 := ck 0; have k1 := ck 1; simp at k0 k1; clear ck; have cq := (HK2.out _ (hSw).2).2; have k2 := cq 0; have k3 := cq 1; have k4 := cq 2; simp at k2 k3 k4; clear cq; go_simp <;> with_reducible rfl)
      try simp only [Act.put, List.setIfInBounds_toArray, List.set_cons_zero, List.set_cons_succ]
      refine wpAnyH_take (i := 8) (oi := { dst := some 8, op := _, type := _, pos := _, after := _, guard := _ }) (v := ?_) rfl (by kernel_rfl) (by kernel_rfl) (by kernel_rfl) (fun _ _ _ h => h) (Or.inl ⟨by rfl, ?_⟩) hHeld ?_
      rotate_left
      · (intro w hSw; have ck := (HK1.out _ (hSw).2).2; have k0 := ck 0; have k1 := ck 1; simp at k0 k1; clear ck; have cq := (HK2.out _ (hSw).2).2; have k2 := cq 0; have k3 := cq 1; have k4 := cq 2; simp at k2 k3 k4; clear cq; go_simp <;> with_reducible rfl)
      try simp only [Act.put, List.setIfInBounds_toArray, List.set_cons_zero, List.set_cons_succ]
      refine wpAnyH_take (i := 9) (oi := { dst := some 9, op := _, type := _, pos := _, after := _, guard := _ }) (v := ?_) rfl (by kernel_rfl) (by kernel_rfl) (by kernel_rfl) (fun _ _ _ h => h) (Or.inl ⟨by rfl, ?_⟩) hHeld ?_
      rotate_left
      · (intro w hSw; have ck := (HK1.out _ (hSw).2).2; have k0 := ck 0; have k1 := ck 1; simp at k0 k1; clear ck; have cq := (HK2.out _ (hSw).2).2; have k2 := cq 0; have k3 := cq 1; have k4 := cq 2; simp at k2 k3 k4; clear cq; go_simp <;> with_reducible rfl)
      try simp only [Act.put, List.setIfInBounds_toArray, List.set_cons_zero, List.set_cons_succ]
      refine wpAnyH_done (by kernel_rfl) ?_ _
      have hBz := hHeld.1
      go_wp2_with fail
      go_ret2
      rw [HR.out]
      exact ⟨HRes.nil _ _, hBz⟩

    · subst hn
      have hRi : isLs RL = true := (put_is hR).1
      have hRl := isLs_le hRi
      have hso := isH_sorted hi
      have HR := Lib.hid (chgHR_ok (how := fun m => putLR m ⟨xa, xt, xq⟩) hi hR)
      have HWI := Lib.hid (fun A2 c2 V h1 h2 h3 => rhwith_any A cap l cs a c A2 c2 RL V hl hcap h1 h2 hso h3)
      clear hi hR
      go_enter Try.func66, Try.ntmps66
      go_wp2_with fail
      refine HIS.out.mono ?_
      rintro e w1 ⟨rfl, hb⟩
      have hB1 := since_step hB0 hb
      have HK1 : Hid (∀ V, Below w1.heap.size w1 V → Bk V w.heap.size #[.int .i64 a, .int .i64 c]) := Lib.hid fun V hV => (hK1.below hb).below hV
      have HK2 : Hid (∀ V, Below w1.heap.size w1 V → Bk V (w.heap.size + 1) #[.int .i64 xa, .int .i64 xt, .int .i64 xq]) := Lib.hid fun V hV => (hK2.below hb).below hV
      generalize lotsH cs a c = L0 at *
      clear hb hK1 hK2
      go_wp2_with fail
      refine wp_region_held_drew (S := (fun V => Below w.heap.size w V ∧ Below w1.heap.size w1 V)) (by kernel_rfl) (by exact ⟨hB1.drew, (Below.refl _ _).drew⟩) (fun hHeld => ?_)
      refine wpAnyH_take (i := 0) (oi := { dst := some 14, op := _, type := _, pos := _, after := _, guard := _ }) (v := ?_) rfl (by kernel_rfl) (by kernel_rfl) (by kernel_rfl) (fun _ _ _ h => h) (Or.inl ⟨by rfl, ?_⟩) hHeld ?_
      rotate_left
      · (intro w hSw; have ck := (HK1.out _ (hSw).2).2; have k0 := ck 0; have k1 := ck 1; simp at k0 k1; clear ck; have cq := (HK2.out _ (hSw).2).2; have k2 := cq 0; have k3 := cq 1; have k4 := cq 2; simp at k2 k3 k4; clear cq; go_simp <;> with_reducible rfl)
      try simp only [Act.put, List.setIfInBounds_toArray, List.set_cons_zero, List.set_cons_succ]
      refine wpAnyH_take (i := 1) (oi := { dst := some 15, op := _, type := _, pos := _, after := _, guard := _ }) (v := ?_) rfl (by kernel_rfl) (by kernel_rfl) (by kernel_rfl) (fun _ _ _ h => h) (Or.inl ⟨by rfl, ?_⟩) hHeld ?_
      rotate_left
      · (intro w hSw; have ck := (HK1.out _ (hSw).2).2; have k0 := ck 0; have k1 := ck 1; simp at k0 k1; clear ck; have cq := (HK2.out _ (hSw).2).2; have k2 := cq 0; have k3 := cq 1; have k4 := cq 2; simp at k2 k3 k4; clear cq; go_simp <;> with_reducible rfl)
      try simp only [Act.put, List.setIfInBounds_toArray, List.set_cons_zero, List.set_cons_succ]
      refine wpAnyH_take (i := 3) (oi := { dst := some 17, op := _, type := _, pos := _, after := _, guard := _ }) (v := ?_) rfl (by kernel_rfl) (by kernel_rfl) (by kernel_rfl) (fun _ _ _ h => h) (Or.inl ⟨by rfl, ?_⟩) hHeld ?_
      rotate_left
      · (intro w hSw; have ck := (HK1.out _ (hSw).2).2; have k0 := ck 0; have k1 := ck 1; simp at k0 k1; clear ck; have cq := (HK2.out _ (hSw).2).2; have k2 := cq 0; have k3 := cq 1; have k4 := cq 2; simp at k2 k3 k4; clear cq; go_simp <;> with_reducible rfl)
      try simp only [Act.put, List.setIfInBounds_toArray, List.set_cons_zero, List.set_cons_succ]
      refine wpAnyH_ready (rs := [2]) (by kernel_rfl) (by simp) ?_
      refine AllReadyH.cons (o := { dst := some 16, op := _, type := _, pos := _, after := _, guard := _ }) rfl (fun K hK => ?_) AllReadyH.nil
      go_simp
      refine (HLO.out _ (HSL.out _ hHeld.1) (HTB.out _ hHeld.1)).mono ?_
      rintro e u1 ⟨⟨A1, c1, rfl, ho1⟩, hk1⟩
      have hKeep := And.intro (since_step hHeld.1 hk1) (since_step hHeld.2 hk1)
      have hs1 := ho1
      clear ho1
      go_wp2_with fail
      refine hK.out _ _ (by (try dsimp only); exact hKeep) (fun hHeld => ?_)
      clear hK K hKeep
      try simp only [Act.put, List.setIfInBounds_toArray, List.set_cons_zero, List.set_cons_succ]
      refine wpAnyH_ready (rs := [4]) (by kernel_rfl) (by simp) ?_
      refine AllReadyH.cons (o := { dst := some 18, op := _, type := _, pos := _, after := _, guard := _ }) rfl (fun K hK => ?_) AllReadyH.nil
      go_simp
      refine (HHO.out A1 c1 _ hs1).mono ?_
      rintro e u2 ⟨⟨A2, c2, rfl, ho2⟩, hk2⟩
      have hKeep := And.intro (since_step hHeld.1 hk2) (since_step hHeld.2 hk2)
      go_wp2_with fail
      refine hK.out _ _ (by (try dsimp only); exact hKeep) (fun hHeld => ?_)
      clear hK K hKeep
      try simp only [Act.put, List.setIfInBounds_toArray, List.set_cons_zero, List.set_cons_succ]
      refine wpAnyH_take (i := 5) (oi := { dst := some 13, op := _, type := _, pos := _, after := _, guard := _ }) (v := ?_) rfl (by kernel_rfl) (by kernel_rfl) (by kernel_rfl) (fun _ _ _ h => h) (Or.inl ⟨by rfl, ?_⟩) hHeld ?_
      rotate_left
      · (intro w hSw; have ck := (HK1.out _ (hSw).2).2; have k0 := ck 0; have k1 := ck 1; simp at k0 k1; clear ck; have cq := (HK2.out _ (hSw).2).2; have k2 := cq 0; have k3 := cq 1; have k4 := cq 2; simp at k2 k3 k4; clear cq; go_simp <;> with_reducible rfl)
      try simp only [Act.put, List.setIfInBounds_toArray, List.set_cons_zero, List.set_cons_succ]
      refine wpAnyH_take (i := 6) (oi := { dst := some 19, op := _, type := _, pos := _, after := _, guard := _ }) (v := ?_) rfl (by kernel_rfl) (by kernel_rfl) (by kernel_rfl) (fun _ _ _ h => h) (Or.inl ⟨by rfl, ?_⟩) hHeld ?_
      rotate_left
      · (intro w hSw; have ck := (HK1.out _ (hSw).2).2; have k0 := ck 0; have k1 := ck 1; simp at k0 k1; clear ck; have cq := (HK2.out _ (hSw).2).2; have k2 := cq 0; have k3 := cq 1; have k4 := cq 2; simp at k2 k3 k4; clear cq; go_simp <;> with_reducible rfl)
      try simp only [Act.put, List.setIfInBounds_toArray, List.set_cons_zero, List.set_cons_succ]
      refine wpAnyH_take (i := 7) (oi := { dst := some 20, op := _, type := _, pos := _, after := _, guard := _ }) (v := ?_) rfl (by kernel_rfl) (by kernel_rfl) (by kernel_rfl) (fun _ _ _ h => h) (Or.inl ⟨by rfl, ?_⟩) hHeld ?_
      rotate_left
      · (intro w hSw; have ck := (HK1.out _ (hSw).2).2; have k0 := ck 0; have k1 := ck 1; simp at k0 k1; clear ck; have cq := (HK2.out _ (hSw).2).2; have k2 := cq 0; have k3 := cq 1; have k4 := cq 2; simp at k2 k3 k4; clear cq; go_simp <;> with_reducible rfl)
      try simp only [Act.put, List.setIfInBounds_toArray, List.set_cons_zero, List.set_cons_succ]
      refine wpAnyH_take (i := 8) (oi := { dst := some 8, op := _, type := _, pos := _, after := _, guard := _ }) (v := ?_) rfl (by kernel_rfl) (by kernel_rfl) (by kernel_rfl) (fun _ _ _ h => h) (Or.inl ⟨by rfl, ?_⟩) hHeld ?_
      rotate_left
      · (intro w hSw; have ck := (HK1.out _ (hSw).2).2; have k0 := ck 0; have k1 := ck 1; simp at k0 k1; clear ck; have cq := (HK2.out _ (hSw).2).2; have k2 := cq 0; have k3 := cq 1; have k4 := cq 2; simp at k2 k3 k4; clear cq; go_simp <;> with_reducible rfl)
      try simp only [Act.put, List.setIfInBounds_toArray, List.set_cons_zero, List.set_cons_succ]
      refine wpAnyH_take (i := 9) (oi := { dst := some 9, op := _, type := _, pos := _, after := _, guard := _ }) (v := ?_) rfl (by kernel_rfl) (by kernel_rfl) (by kernel_rfl) (fun _ _ _ h => h) (Or.inl ⟨by rfl, ?_⟩) hHeld ?_
      rotate_left
      · (intro w hSw; have ck := (HK1.out _ (hSw).2).2; have k0 := ck 0; have k1 := ck 1; simp at k0 k1; clear ck; have cq := (HK2.out _ (hSw).2).2; have k2 := cq 0; have k3 := cq 1; have k4 := cq 2; simp at k2 k3 k4; clear cq; go_simp <;> with_reducible rfl)
      try simp only [Act.put, List.setIfInBounds_toArray, List.set_cons_zero, List.set_cons_succ]
      refine wpAnyH_done (by kernel_rfl) ?_ _
      have hBz := hHeld.1
      have ck := (HK1.out _ hHeld.2).2
      have k0 := ck 0
      have k1 := ck 1
      simp at k0 k1
      clear ck
      have hs2 := Sl.of_own ho2
      have HW := Lib.hid (HWI.out A2 c2 _ (HSL.out _ hBz) (HTB.out _ hBz) hs2)
      go_wp2_with fail
      refine HW.out.mono ?_
      rintro e u3 ⟨⟨l3, A3, c3, rfl, hs3, ht3, hc3⟩, hk3⟩
      have hBz := since_step hBz hk3
      go_wp2_with fail
      go_ret2
      rw [HR.out]
      exact ⟨⟨l3, A3, c3, rfl, hs3, ht3, hc3⟩, hBz⟩
set_option maxHeartbeats 8000000 in
set_option maxRecDepth 100000 in
theorem rhtake_any (A : Option Addr) (cap : Nat) (l : List Hd) (cs : List Hc) (a c xa xt xq : Int) (w : World) (hl : l.length ≤ 900000) (hcl : ∀ g ∈ cs, g.L.length ≤ 900000) (hx : In64 xq) (h6 : ∀ g ∈ cs, ∀ y ∈ g.L, In64 y.qty) (hcap : CapH A l.length cap) (hs : Sl w A (rc Hd.cells l)) (ht : HdTab w l cs) :
    Calls Try.prog 68 #[.slice A l.length cap, .agg #[.int .i64 a, .int .i64 c], .agg #[.int .i64 xa, .int .i64 xt, .int .i64 xq]] w fun e w' => HRes w' e (chgHR (fun m => takeLR m ⟨xa, xt, xq⟩) cs a c) ∧ Below w.heap.size w w' := by
  have hB0 := since_alloc (since_alloc (Below.refl _ w) (.cells #[.int .i64 a, .int .i64 c] 24)) (.cells #[.int .i64 xa, .int .i64 xt, .int .i64 xq] 93)
  have hK1 := (Bk.new w #[.int .i64 a, .int .i64 c] 24).alloc (.cells #[.int .i64 xa, .int .i64 xt, .int .i64 xq] 93)
  have hK2 := Bk.new (w.alloc (.cells #[.int .i64 a, .int .i64 c] 24)) #[.int .i64 xa, .int .i64 xt, .int .i64 xq] 93
  rw [World.size_alloc] at hK2
  have HIS := Lib.hid (rhis_any A cap l cs _ hl hcl ((hs.alloc (.cells #[.int .i64 a, .int .i64 c] 24)).alloc (.cells #[.int .i64 xa, .int .i64 xt, .int .i64 xq] 93)) (ht.below hB0))
  have HSL : Hid (∀ V, Below w.heap.size w V → Sl V A (rc Hd.cells l)) := Lib.hid fun V hV => hs.below hV
  have HTB : Hid (∀ V, Below w.heap.size w V → HdTab V l cs) := Lib.hid fun V hV => ht.below hV
  have HLO := Lib.hid (fun V h1 h2 => rhlots_any A cap l cs a c V hl h1 h2)
  have hlen := lotsH_len hcl a c
  have hl6 := lots_in6 h6 a c
  have HHO := Lib.hid (fun A1 c1 V h1 => rtake_any A1 c1 (lotsH cs a c) ⟨xa, xt, xq⟩ V hlen hx hl6 h1)
  obtain ⟨rn, RL, hR⟩ : ∃ rn RL, takeLR (lotsH cs a c) ⟨xa, xt, xq⟩ = (rn, RL) := ⟨_, _, rfl⟩
  rw [hR] at HHO
  unfold LRes Lt.val at HHO
  simp only at HHO
  clear hs ht
  cases hi : isH cs with
  | false =>
    have HR := Lib.hid (chgHR_form (how := fun m => takeLR m ⟨xa, xt, xq⟩) (a := a) (c := c) hi)
    rw [hi] at HIS
    clear hi hR
    go_enter Try.func68, Try.ntmps68
    go_wp2_with fail
    refine HIS.out.mono ?_
    rintro e w1 ⟨rfl, hb⟩
    have hB1 := since_step hB0 hb
    go_wp2_with fail
    go_ret2
    rw [HR.out]
    exact ⟨HRes.nil _ _, hB1⟩
  | true =>
    rw [hi] at HIS
    by_cases hn : rn = 0
    rotate_left
    · have HR := Lib.hid (chgHR_err (how := fun m => takeLR m ⟨xa, xt, xq⟩) hi hR hn)
      have hnb : (rn != 0) = true := by simpa using hn
      have hnb2 : (rn == 0) = false := by simpa using hn
      clear hi hR hn
      go_enter Try.func68, Try.ntmps68
      go_wp2_with fail
      refine HIS.out.mono ?_
      rintro e w1 ⟨rfl, hb⟩
      have hB1 := since_step hB0 hb
      have HK1 : Hid (∀ V, Below w1.heap.size w1 V → Bk V w.heap.size #[.int .i64 a, .int .i64 c]) := Lib.hid fun V hV => (hK1.below hb).below hV
      have HK2 : Hid (∀ V, Below w1.heap.size w1 V → Bk V (w.heap.size + 1) #[.int .i64 xa, .int .i64 xt, .int .i64 xq]) := Lib.hid fun V hV => (hK2.below hb).below hV
      generalize lotsH cs a c = L0 at *
      clear hb hK1 hK2
      go_wp2_with fail
      refine wp_region_held_drew (S := (fun V => Below w.heap.size w V ∧ Below w1.heap.size w1 V)) (by kernel_rfl) (by exact ⟨hB1.drew, (Below.refl _ _).drew⟩) (fun hHeld => ?_)
      refine wpAnyH_take (i := 0) (oi := { dst := some 14, op := _, type := _, pos := _, after := _, guard := _ }) (v := ?_) rfl (by kernel_rfl) (by kernel_rfl) (by kernel_rfl) (fun _ _ _ h => h) (Or.inl ⟨by rfl, ?_⟩) hHeld ?_
      rotate_left
      · (intro w hSw; have ck := (HK1.out _ (hSw).2).2; have k0 := ck 0; have k1 := ck 1; simp at k0 k1; clear ck; have cq := (HK2.out _ (hSw).2).2; have k2 := cq 0; have k3 := cq 1; have k4 := cq 2; simp at k2 k3 k4; clear cq; go_simp <;> with_reducible rfl)
      try simp only [Act.put, List.setIfInBounds_toArray, List.set_cons_zero, List.set_cons_succ]
      refine wpAnyH_take (i := 1) (oi := { dst := some 15, op := _, type := _, pos := _, after := _, guard := _ }) (v := ?_) rfl (by kernel_rfl) (by kernel_rfl) (by kernel_rfl) (fun _ _ _ h => h) (Or.inl ⟨by rfl, ?_⟩) hHeld ?_
      rotate_left
      · (intro w hSw; have ck := (HK1.out _ (hSw).2).2; have k0 := ck 0; have k1 := ck 1; simp at k0 k1; clear ck; have cq := (HK2.out _ (hSw).2).2; have k2 := cq 0; have k3 := cq 1; have k4 := cq 2; simp at k2 k3 k4; clear cq; go_simp <;> with_reducible rfl)
      try simp only [Act.put, List.setIfInBounds_toArray, List.set_cons_zero, List.set_cons_succ]
      refine wpAnyH_take (i := 3) (oi := { dst := some 17, op := _, type := _, pos := _, after := _, guard := _ }) (v := ?_) rfl (by kernel_rfl) (by kernel_rfl) (by kernel_rfl) (fun _ _ _ h => h) (Or.inl ⟨by rfl, ?_⟩) hHeld ?_
      rotate_left
      · (intro w hSw; have ck := (HK1.out _ (hSw).2).2; have k0 := ck 0; have k1 := ck 1; simp at k0 k1; clear ck; have cq := (HK2.out _ (hSw).2).2; have k2 := cq 0; have k3 := cq 1; have k4 := cq 2; simp at k2 k3 k4; clear cq; go_simp <;> with_reducible rfl)
      try simp only [Act.put, List.setIfInBounds_toArray, List.set_cons_zero, List.set_cons_succ]
      refine wpAnyH_ready (rs := [2]) (by kernel_rfl) (by simp) ?_
      refine AllReadyH.cons (o := { dst := some 16, op := _, type := _, pos := _, after := _, guard := _ }) rfl (fun K hK => ?_) AllReadyH.nil
      go_simp
      refine (HLO.out _ (HSL.out _ hHeld.1) (HTB.out _ hHeld.1)).mono ?_
      rintro e u1 ⟨⟨A1, c1, rfl, ho1⟩, hk1⟩
      have hKeep := And.intro (since_step hHeld.1 hk1) (since_step hHeld.2 hk1)
      have hs1 := ho1
      clear ho1
      go_wp2_with fail
      refine hK.out _ _ (by (try dsimp only); exact hKeep) (fun hHeld => ?_)
      clear hK K hKeep
      try simp only [Act.put, List.setIfInBounds_toArray, List.set_cons_zero, List.set_cons_succ]
      refine wpAnyH_ready (rs := [4]) (by kernel_rfl) (by simp) ?_
      refine AllReadyH.cons (o := { dst := some 18, op := _, type := _, pos := _, after := _, guard := _ }) rfl (fun K hK => ?_) AllReadyH.nil
      go_simp
      refine (HHO.out A1 c1 _ hs1).mono ?_
      rintro e u2 ⟨⟨A2, c2, rfl, ho2⟩, hk2⟩
      have hKeep := And.intro (since_step hHeld.1 hk2) (since_step hHeld.2 hk2)
      go_wp2_with fail
      refine hK.out _ _ (by (try dsimp only); exact hKeep) (fun hHeld => ?_)
      clear hK K hKeep
      try simp only [Act.put, List.setIfInBounds_toArray, List.set_cons_zero, List.set_cons_succ]
      refine wpAnyH_take (i := 5) (oi := { dst := some 13, op := _, type := _, pos := _, after := _, guard := _ }) (v := ?_) rfl (by kernel_rfl) (by kernel_rfl) (by kernel_rfl) (fun _ _ _ h => h) (Or.inl ⟨by rfl, ?_⟩) hHeld ?_
      rotate_left
      · (intro w hSw; have ck := (HK1.out _ (hSw).2).2; have k0 := ck 0; have k1 := ck 1; simp at k0 k1; clear ck; have cq := (HK2.out _ (hSw).2).2; have k2 := cq 0; have k3 := cq 1; have k4 := cq 2; simp at k2 k3 k4; clear cq; go_simp <;> with_reducible rfl)
      try simp only [Act.put, List.setIfInBounds_toArray, List.set_cons_zero, List.set_cons_succ]
      refine wpAnyH_take (i := 6) (oi := { dst := some 19, op := _, type := _, pos := _, after := _, guard := _ }) (v := ?_) rfl (by kernel_rfl) (by kernel_rfl) (by kernel_rfl) (fun _ _ _ h => h) (Or.inl ⟨by rfl, ?_⟩) hHeld ?_
      rotate_left
      · (intro w hSw; have ck := (HK1.out _ (hSw).2).2; have k0 := ck 0; have k1 := ck 1; simp at k0 k1; clear ck; have cq := (HK2.out _ (hSw).2).2; have k2 := cq 0; have k3 := cq 1; have k4 := cq 2; simp at k2 k3 k4; clear cq; go_simp <;> with_reducible rfl)
      try simp only [Act.put, List.setIfInBounds_toArray, List.set_cons_zero, List.set_cons_succ]
      refine wpAnyH_take (i := 7) (oi := { dst := some 20, op := _, type := _, pos := _, after := _, guard := _ }) (v := ?_) rfl (by kernel_rfl) (by kernel_rfl) (by kernel_rfl) (fun _ _ _ h => h) (Or.inl ⟨by rfl, ?_⟩) hHeld ?_
      rotate_left
      · (intro w hSw; have ck := (HK1.out _ (hSw).2).2; have k0 := ck 0; have k1 := ck 1; simp at k0 k1; clear ck; have cq := (HK2.out _ (hSw).2).2; have k2 := cq 0; have k3 := cq 1; have k4 := cq 2; simp at k2 k3 k4; clear cq; go_simp <;> with_reducible rfl)
      try simp only [Act.put, List.setIfInBounds_toArray, List.set_cons_zero, List.set_cons_succ]
      refine wpAnyH_take (i := 8) (oi := { dst := some 8, op := _, type := _, pos := _, after := _, guard := _ }) (v := ?_) rfl (by kernel_rfl) (by kernel_rfl) (by kernel_rfl) (fun _ _ _ h => h) (Or.inl ⟨by rfl, ?_⟩) hHeld ?_
      rotate_left
      · (intro w hSw; have ck := (HK1.out _ (hSw).2).2; have k0 := ck 0; have k1 := ck 1; simp at k0 k1; clear ck; have cq := (HK2.out _ (hSw).2).2; have k2 := cq 0; have k3 := cq 1; have k4 := cq 2; simp at k2 k3 k4; clear cq; go_simp <;> with_reducible rfl)
      try simp only [Act.put, List.setIfInBounds_toArray, List.set_cons_zero, List.set_cons_succ]
      refine wpAnyH_take (i := 9) (oi := { dst := some 9, op := _, type := _, pos := _, after := _, guard := _ }) (v := ?_) rfl (by kernel_rfl) (by kernel_rfl) (by kernel_rfl) (fun _ _ _ h => h) (Or.inl ⟨by rfl, ?_⟩) hHeld ?_
      rotate_left
      · (intro w hSw; have ck := (HK1.out _ (hSw).2).2; have k0 := ck 0; have k1 := ck 1; simp at k0 k1; clear ck; have cq := (HK2.out _ (hSw).2).2; have k2 := cq 0; have k3 := cq 1; have k4 := cq 2; simp at k2 k3 k4; clear cq; go_simp <;> with_reducible rfl)
      try simp only [Act.put, List.setIfInBounds_toArray, List.set_cons_zero, List.set_cons_succ]
      refine wpAnyH_done (by kernel_rfl) ?_ _
      have hBz := hHeld.1
      go_wp2_with fail
      go_ret2
      rw [HR.out]
      exact ⟨HRes.nil _ _, hBz⟩

    · subst hn
      have hRi : isLs RL = true := (take_is hR).1
      have hRl := isLs_le hRi
      have hso := isH_sorted hi
      have HR := Lib.hid (chgHR_ok (how := fun m => takeLR m ⟨xa, xt, xq⟩) hi hR)
      have HWI := Lib.hid (fun A2 c2 V h1 h2 h3 => rhwith_any A cap l cs a c A2 c2 RL V hl hcap h1 h2 hso h3)
      clear hi hR
      go_enter Try.func68, Try.ntmps68
      go_wp2_with fail
      refine HIS.out.mono ?_
      rintro e w1 ⟨rfl, hb⟩
      have hB1 := since_step hB0 hb
      have HK1 : Hid (∀ V, Below w1.heap.size w1 V → Bk V w.heap.size #[.int .i64 a, .int .i64 c]) := Lib.hid fun V hV => (hK1.below hb).below hV
      have HK2 : Hid (∀ V, Below w1.heap.size w1 V → Bk V (w.heap.size + 1) #[.int .i64 xa, .int .i64 xt, .int .i64 xq]) := Lib.hid fun V hV => (hK2.below hb).below hV
      generalize lotsH cs a c = L0 at *
      clear hb hK1 hK2
      go_wp2_with fail
      refine wp_region_held_drew (S := (fun V => Below w.heap.size w V ∧ Below w1.heap.size w1 V)) (by kernel_rfl) (by exact ⟨hB1.drew, (Below.refl _ _).drew⟩) (fun hHeld => ?_)
      refine wpAnyH_take (i := 0) (oi := { dst := some 14, op := _, type := _, pos := _, after := _, guard := _ }) (v := ?_) rfl (by kernel_rfl) (by kernel_rfl) (by kernel_rfl) (fun _ _ _ h => h) (Or.inl ⟨by rfl, ?_⟩) hHeld ?_
      rotate_left
      · (intro w hSw; have ck := (HK1.out _ (hSw).2).2; have k0 := ck 0; have k1 := ck 1; simp at k0 k1; clear ck; have cq := (HK2.out _ (hSw).2).2; have k2 := cq 0; have k3 := cq 1; have k4 := cq 2; simp at k2 k3 k4; clear cq; go_simp <;> with_reducible rfl)
      try simp only [Act.put, List.setIfInBounds_toArray, List.set_cons_zero, List.set_cons_succ]
      refine wpAnyH_take (i := 1) (oi := { dst := some 15, op := _, type := _, pos := _, after := _, guard := _ }) (v := ?_) rfl (by kernel_rfl) (by kernel_rfl) (by kernel_rfl) (fun _ _ _ h => h) (Or.inl ⟨by rfl, ?_⟩) hHeld ?_
      rotate_left
      · (intro w hSw; have ck := (HK1.out _ (hSw).2).2; have k0 := ck 0; have k1 := ck 1; simp at k0 k1; clear ck; have cq := (HK2.out _ (hSw).2).2; have k2 := cq 0; have k3 := cq 1; have k4 := cq 2; simp at k2 k3 k4; clear cq; go_simp <;> with_reducible rfl)
      try simp only [Act.put, List.setIfInBounds_toArray, List.set_cons_zero, List.set_cons_succ]
      refine wpAnyH_take (i := 3) (oi := { dst := some 17, op := _, type := _, pos := _, after := _, guard := _ }) (v := ?_) rfl (by kernel_rfl) (by kernel_rfl) (by kernel_rfl) (fun _ _ _ h => h) (Or.inl ⟨by rfl, ?_⟩) hHeld ?_
      rotate_left
      · (intro w hSw; have ck := (HK1.out _ (hSw).2).2; have k0 := ck 0; have k1 := ck 1; simp at k0 k1; clear ck; have cq := (HK2.out _ (hSw).2).2; have k2 := cq 0; have k3 := cq 1; have k4 := cq 2; simp at k2 k3 k4; clear cq; go_simp <;> with_reducible rfl)
      try simp only [Act.put, List.setIfInBounds_toArray, List.set_cons_zero, List.set_cons_succ]
      refine wpAnyH_ready (rs := [2]) (by kernel_rfl) (by simp) ?_
      refine AllReadyH.cons (o := { dst := some 16, op := _, type := _, pos := _, after := _, guard := _ }) rfl (fun K hK => ?_) AllReadyH.nil
      go_simp
      refine (HLO.out _ (HSL.out _ hHeld.1) (HTB.out _ hHeld.1)).mono ?_
      rintro e u1 ⟨⟨A1, c1, rfl, ho1⟩, hk1⟩
      have hKeep := And.intro (since_step hHeld.1 hk1) (since_step hHeld.2 hk1)
      have hs1 := ho1
      clear ho1
      go_wp2_with fail
      refine hK.out _ _ (by (try dsimp only); exact hKeep) (fun hHeld => ?_)
      clear hK K hKeep
      try simp only [Act.put, List.setIfInBounds_toArray, List.set_cons_zero, List.set_cons_succ]
      refine wpAnyH_ready (rs := [4]) (by kernel_rfl) (by simp) ?_
      refine AllReadyH.cons (o := { dst := some 18, op := _, type := _, pos := _, after := _, guard := _ }) rfl (fun K hK => ?_) AllReadyH.nil
      go_simp
      refine (HHO.out A1 c1 _ hs1).mono ?_
      rintro e u2 ⟨⟨A2, c2, rfl, ho2⟩, hk2⟩
      have hKeep := And.intro (since_step hHeld.1 hk2) (since_step hHeld.2 hk2)
      go_wp2_with fail
      refine hK.out _ _ (by (try dsimp only); exact hKeep) (fun hHeld => ?_)
      clear hK K hKeep
      try simp only [Act.put, List.setIfInBounds_toArray, List.set_cons_zero, List.set_cons_succ]
      refine wpAnyH_take (i := 5) (oi := { dst := some 13, op := _, type := _, pos := _, after := _, guard := _ }) (v := ?_) rfl (by kernel_rfl) (by kernel_rfl) (by kernel_rfl) (fun _ _ _ h => h) (Or.inl ⟨by rfl, ?_⟩) hHeld ?_
      rotate_left
      · (intro w hSw; have ck := (HK1.out _ (hSw).2).2; have k0 := ck 0; have k1 := ck 1; simp at k0 k1; clear ck; have cq := (HK2.out _ (hSw).2).2; have k2 := cq 0; have k3 := cq 1; have k4 := cq 2; simp at k2 k3 k4; clear cq; go_simp <;> with_reducible rfl)
      try simp only [Act.put, List.setIfInBounds_toArray, List.set_cons_zero, List.set_cons_succ]
      refine wpAnyH_take (i := 6) (oi := { dst := some 19, op := _, type := _, pos := _, after := _, guard := _ }) (v := ?_) rfl (by kernel_rfl) (by kernel_rfl) (by kernel_rfl) (fun _ _ _ h => h) (Or.inl ⟨by rfl, ?_⟩) hHeld ?_
      rotate_left
      · (intro w hSw; have ck := (HK1.out _ (hSw).2).2; have k0 := ck 0; have k1 := ck 1; simp at k0 k1; clear ck; have cq := (HK2.out _ (hSw).2).2; have k2 := cq 0; have k3 := cq 1; have k4 := cq 2; simp at k2 k3 k4; clear cq; go_simp <;> with_reducible rfl)
      try simp only [Act.put, List.setIfInBounds_toArray, List.set_cons_zero, List.set_cons_succ]
      refine wpAnyH_take (i := 7) (oi := { dst := some 20, op := _, type := _, pos := _, after := _, guard := _ }) (v := ?_) rfl (by kernel_rfl) (by kernel_rfl) (by kernel_rfl) (fun _ _ _ h => h) (Or.inl ⟨by rfl, ?_⟩) hHeld ?_
      rotate_left
      · (intro w hSw; have ck := (HK1.out _ (hSw).2).2; have k0 := ck 0; have k1 := ck 1; simp at k0 k1; clear ck; have cq := (HK2.out _ (hSw).2).2; have k2 := cq 0; have k3 := cq 1; have k4 := cq 2; simp at k2 k3 k4; clear cq; go_simp <;> with_reducible rfl)
      try simp only [Act.put, List.setIfInBounds_toArray, List.set_cons_zero, List.set_cons_succ]
      refine wpAnyH_take (i := 8) (oi := { dst := some 8, op := _, type := _, pos := _, after := _, guard := _ }) (v := ?_) rfl (by kernel_rfl) (by kernel_rfl) (by kernel_rfl) (fun _ _ _ h => h) (Or.inl ⟨by rfl, ?_⟩) hHeld ?_
      rotate_left
      · (intro w hSw; have ck := (HK1.out _ (hSw).2).2; have k0 := ck 0; have k1 := ck 1; simp at k0 k1; clear ck; have cq := (HK2.out _ (hSw).2).2; have k2 := cq 0; have k3 := cq 1; have k4 := cq 2; simp at k2 k3 k4; clear cq; go_simp <;> with_reducible rfl)
      try simp only [Act.put, List.setIfInBounds_toArray, List.set_cons_zero, List.set_cons_succ]
      refine wpAnyH_take (i := 9) (oi := { dst := some 9, op := _, type := _, pos := _, after := _, guard := _ }) (v := ?_) rfl (by kernel_rfl) (by kernel_rfl) (by kernel_rfl) (fun _ _ _ h => h) (Or.inl ⟨by rfl, ?_⟩) hHeld ?_
      rotate_left
      · (intro w hSw; have ck := (HK1.out _ (hSw).2).2; have k0 := ck 0; have k1 := ck 1; simp at k0 k1; clear ck; have cq := (HK2.out _ (hSw).2).2; have k2 := cq 0; have k3 := cq 1; have k4 := cq 2; simp at k2 k3 k4; clear cq; go_simp <;> with_reducible rfl)
      try simp only [Act.put, List.setIfInBounds_toArray, List.set_cons_zero, List.set_cons_succ]
      refine wpAnyH_done (by kernel_rfl) ?_ _
      have hBz := hHeld.1
      have ck := (HK1.out _ hHeld.2).2
      have k0 := ck 0
      have k1 := ck 1
      simp at k0 k1
      clear ck
      have hs2 := Sl.of_own ho2
      have HW := Lib.hid (HWI.out A2 c2 _ (HSL.out _ hBz) (HTB.out _ hBz) hs2)
      go_wp2_with fail
      refine HW.out.mono ?_
      rintro e u3 ⟨⟨l3, A3, c3, rfl, hs3, ht3, hc3⟩, hk3⟩
      have hBz := since_step hBz hk3
      go_wp2_with fail
      go_ret2
      rw [HR.out]
      exact ⟨⟨l3, A3, c3, rfl, hs3, ht3, hc3⟩, hBz⟩
set_option maxHeartbeats 4000000 in
set_option maxRecDepth 100000 in
theorem rhset_any (A : Option Addr) (cap : Nat) (l : List Hd) (cs : List Hc) (a c : Int) (LA : Option Addr) (LC : Nat) (L : List Lt) (w : World) (hl : l.length ≤ 900000) (hcl : ∀ g ∈ cs, g.L.length ≤ 900000) (hLl : L.length ≤ 900000) (hcap : CapH A l.length cap) (hs : Sl w A (rc Hd.cells l)) (ht : HdTab w l cs) (hLs : Sl w LA (rc Lt.cells L)) :
    Calls Try.prog 70 #[.slice A l.length cap, .agg #[.int .i64 a, .int .i64 c], .slice LA L.length LC] w fun e w' => HRes w' e (setHR cs a c L) ∧ Below w.heap.size w w' := by
  have hB0 := since_alloc (Below.refl _ w) (.cells #[.int .i64 a, .int .i64 c] 24)
  have hK := Bk.new w #[.int .i64 a, .int .i64 c] 24
  have HIS := Lib.hid (rhis_any A cap l cs _ hl hcl (hs.alloc (.cells #[.int .i64 a, .int .i64 c] 24)) (ht.below hB0))
  have HSL : Hid (∀ V, Below w.heap.size w V → Sl V A (rc Hd.cells l)) := Lib.hid fun V hV => hs.below hV
  have HTB : Hid (∀ V, Below w.heap.size w V → HdTab V l cs) := Lib.hid fun V hV => ht.below hV
  have HLS : Hid (∀ V, Below w.heap.size w V → Sl V LA (rc Lt.cells L)) := Lib.hid fun V hV => hLs.below hV
  have HLI := Lib.hid (fun V h => ris_any LA LC L V (by omega) h)
  clear hs ht hLs
  cases hi : isH cs with
  | false =>
    have HR := Lib.hid (setHR_no (a := a) (c := c) (L := L) (.inl hi))
    rw [hi] at HIS
    clear hi
    go_enter Try.func70, Try.ntmps70
    go_wp2_with fail
    refine HIS.out.mono ?_
    rintro e w1 ⟨rfl, hb⟩
    have hB1 := since_step hB0 hb
    go_wp2_with fail
    go_ret2
    rw [HR.out]
    exact ⟨HRes.nil _ _, hB1⟩
  | true =>
    rw [hi] at HIS
    cases hj : isLs L with
    | false =>
      have HR := Lib.hid (setHR_no (a := a) (c := c) (cs := cs) (.inr hj))
      rw [hj] at HLI
      clear hi hj
      go_enter Try.func70, Try.ntmps70
      go_wp2_with fail
      refine HIS.out.mono ?_
      rintro e w1 ⟨rfl, hb⟩
      have hB1 := since_step hB0 hb
      go_wp2_with fail
      refine (HLI.out _ (HLS.out _ hB1)).mono ?_
      rintro e w2 ⟨rfl, hb⟩
      have hB1 := since_step hB1 hb
      go_wp2_with fail
      go_ret2
      rw [HR.out]
      exact ⟨HRes.nil _ _, hB1⟩
    | true =>
      have HR := Lib.hid (setHR_ok (a := a) (c := c) hi hj)
      have HWI := Lib.hid (fun V h1 h2 h3 => rhwith_any A cap l cs a c LA LC L V hl hcap h1 h2 (isH_sorted hi) h3)
      rw [hj] at HLI
      clear hi hj
      go_enter Try.func70, Try.ntmps70
      go_wp2_with fail
      refine HIS.out.mono ?_
      rintro e w1 ⟨rfl, hb⟩
      have hB := since_step hB0 hb
      have hK := hK.below hb
      go_wp2_with fail
      refine (HLI.out _ (HLS.out _ hB)).mono ?_
      rintro e w2 ⟨rfl, hb⟩
      have hB := since_step hB hb
      have hK := hK.below hb
      have ck := hK.2
      have k0 := ck 0
      have k1 := ck 1
      simp at k0 k1
      clear hb ck
      go_wp2_with fail
      refine (HWI.out _ (HSL.out _ hB) (HTB.out _ hB) (HLS.out _ hB)).mono ?_
      rintro e u3 ⟨⟨l3, A3, c3, rfl, hs3, ht3, hc3⟩, hk3⟩
      have hBz := since_step hB hk3
      go_wp2_with fail
      go_ret2
      rw [HR.out]
      exact ⟨⟨l3, A3, c3, rfl, hs3, ht3, hc3⟩, hBz⟩
end Go.Proofs.Ytldnponbkhgijaa
end
