import Derived.Test.YtldnponbkhgijaaHP12
import Derived.Test.YtldnponbkhgijaaHP13
import Derived.Test.YtldnponbkhgijaaHP02
section
namespace Go.Proofs.Ytldnponbkhgijaa
open Go.ChangeShapes Go.WideShapes Go.ChangeAt Go.RowKit
set_option linter.unusedVariables false
set_option linter.unusedSimpArgs false

theorem Bk.farH {w : World} {b : Nat} {cs : Array Value} (h : Bk w b cs) {p : Addr} (hp : p.block ≠ b) (u : Value) : Bk (w.setCell p u) b cs := by
  refine ⟨by simpa using h.1, fun o => ?_⟩
  rw [cell_set, if_neg (fun e => hp (by rw [e]))]
  exact h.2 o
theorem fz_new (w : World) (cs : Array Value) (t : TypeId) (i : Nat) : (w.alloc (.cells cs t)).frozen? ⟨w.heap.size, i, none⟩ = false := by simp
set_option maxRecDepth 100000 in
theorem rhwith_anyN (A : Option Addr) (cap : Nat) (l : List Hd) (cs : List Hc) (a c : Int) (LA : Option Addr) (LC : Nat) (L : List Lt) (w : World) (hl : l.length ≤ 900000) (hcap : CapH A l.length cap) (hs : Sl w A (rc Hd.cells l)) (ht : HdTab w l cs) (hso : SoH cs) (hLs : Sl w LA (rc Lt.cells L)) :
    Calls Try.prog 132 #[.slice A l.length cap, .agg #[.int .i64 a, .int .i64 c], .slice LA L.length LC] w fun e w' => HRowN l (fun A => A = LA) w.heap.size w' e (withH cs a c L) ∧ Below w.heap.size w w' := by
  cases L with
  | nil => exact rhwith_nilN A cap l cs a c LA LC w hl hcap hs ht hso
  | cons x r => exact rhwith_someN A cap l cs a c LA LC (x :: r) w hl hcap hs ht hso hLs (by simp)
set_option maxHeartbeats 8000000 in
set_option maxRecDepth 100000 in
theorem hchange_takeN (A : Option Addr) (cap : Nat) (l : List Hd) (cs : List Hc) (a c xa xt xq : Int) (w : World) (hl : l.length ≤ 900000) (hcl : ∀ g ∈ cs, g.L.length ≤ 900000) (hx : In64 xq) (h6 : ∀ g ∈ cs, ∀ y ∈ g.L, In64 y.qty) (hs : Sl w A (rc Hd.cells l)) (ht : HdTab w l cs) :
    Calls Try.prog 129 #[.slice A l.length cap, .agg #[.int .i64 a, .int .i64 c], .agg #[.int .i64 xa, .int .i64 xt, .int .i64 xq], .func (.func 133) #[] #[]] w fun e w' => HResN l (AtOr w.heap.size) w.heap.size w' e (chgHR (fun m => takeLR m ⟨xa, xt, xq⟩) cs a c) ∧ Below w.heap.size w w' := by
  have hB0 := since_alloc (since_alloc (Below.refl _ w) (.cells #[.int .i64 a, .int .i64 c] 24)) (.cells #[.int .i64 xa, .int .i64 xt, .int .i64 xq] 93)
  have hK1 := (Bk.new w #[.int .i64 a, .int .i64 c] 24).alloc (.cells #[.int .i64 xa, .int .i64 xt, .int .i64 xq] 93)
  have hK2 := Bk.new (w.alloc (.cells #[.int .i64 a, .int .i64 c] 24)) #[.int .i64 xa, .int .i64 xt, .int .i64 xq] 93
  rw [World.size_alloc] at hK2
  have HIS := Lib.hid (his_any A cap l cs _ hl hcl ((hs.alloc (.cells #[.int .i64 a, .int .i64 c] 24)).alloc (.cells #[.int .i64 xa, .int .i64 xt, .int .i64 xq] 93)) (ht.below hB0))
  have HSL : Hid (∀ V, Below w.heap.size w V → Sl V A (rc Hd.cells l)) := Lib.hid fun V hV => hs.below hV
  have HTB : Hid (∀ V, Below w.heap.size w V → HdTab V l cs) := Lib.hid fun V hV => ht.below hV
  have HLO := Lib.hid (fun V h1 h2 => hlots_any A cap l cs a c V hl hcl h1 h2)
  have hlen := lotsH_len hcl a c
  have hl6 := lots_in6 h6 a c
  have HHO := Lib.hid (fun A1 c1 V h1 => ltake_any A1 c1 (lotsH cs a c) ⟨xa, xt, xq⟩ V hlen hx hl6 h1)
  obtain ⟨rn, RL, hR⟩ : ∃ rn RL, takeLR (lotsH cs a c) ⟨xa, xt, xq⟩ = (rn, RL) := ⟨_, _, rfl⟩
  rw [hR] at HHO
  unfold LRes Lt.val at HHO
  simp only at HHO
  clear hs ht
  have hF : Ent Try.prog 133 := Ent.of (by kernel_rfl)
  cases hi : isH cs with
  | false =>
    have HR := Lib.hid (chgHR_form (how := fun m => takeLR m ⟨xa, xt, xq⟩) (a := a) (c := c) hi)
    rw [hi] at HIS
    clear hi hR
    go_enter Try.func129, Try.ntmps129
    go_wp2_with fail
    refine HIS.out.mono ?_
    rintro e w1 ⟨rfl, hb⟩
    have hB1 := since_step hB0 hb
    go_wp2_with fail
    go_ret2
    rw [HR.out]
    exact ⟨HResN.nil _ _ _ _ _, hB1⟩
  | true =>
    rw [hi] at HIS
    by_cases hn : rn = 0
    rotate_left
    · have HR := Lib.hid (chgHR_err (how := fun m => takeLR m ⟨xa, xt, xq⟩) hi hR hn)
      have hnb : (rn != 0) = true := by simpa using hn
      have hnb2 : (rn == 0) = false := by simpa using hn
      clear hi hR hn
      go_enter Try.func129, Try.ntmps129
      go_wp2_with fail
      refine HIS.out.mono ?_
      rintro e w1 ⟨rfl, hb⟩
      have hB1 := since_step hB0 hb
      have HK1 : Hid (∀ V, Below w1.heap.size w1 V → Bk V w.heap.size #[.int .i64 a, .int .i64 c]) := Lib.hid fun V hV => (hK1.below hb).below hV
      have HK2 : Hid (∀ V, Below w1.heap.size w1 V → Bk V (w.heap.size + 1) #[.int .i64 xa, .int .i64 xt, .int .i64 xq]) := Lib.hid fun V hV => (hK2.below hb).below hV
      generalize lotsH cs a c = L0 at *
      clear hb hK1 hK2
      go_wp2_with fail
      refine wp_region_held_drew (S := (fun V => Below w.heap.size w V ∧ Below w1.heap.size w1 V)) (by kernel_rfl) (by exact ⟨hB1.drew, (Below.refl _ _).drew⟩) (fun hHeld => ?_)
      refine wpAnyH_take (i := 0) (oi := { dst := some 16, op := _, type := _, pos := _, after := _, guard := _ }) (v := ?_) rfl (by kernel_rfl) (by kernel_rfl) (by kernel_rfl) (fun _ _ _ h => h) (Or.inl ⟨by rfl, ?_⟩) hHeld ?_
      rotate_left
      · (intro w hSw; have ck := (HK1.out _ (hSw).2).2; have k0 := ck 0; have k1 := ck 1; simp at k0 k1; clear ck; have cq := (HK2.out _ (hSw).2).2; have k2 := cq 0; have k3 := cq 1; have k4 := cq 2; simp at k2 k3 k4; clear cq; go_simp <;> with_reducible rfl)
      try simp only [Act.put, List.setIfInBounds_toArray, List.set_cons_zero, List.set_cons_succ]
      refine wpAnyH_take (i := 1) (oi := { dst := some 17, op := _, type := _, pos := _, after := _, guard := _ }) (v := ?_) rfl (by kernel_rfl) (by kernel_rfl) (by kernel_rfl) (fun _ _ _ h => h) (Or.inl ⟨by rfl, ?_⟩) hHeld ?_
      rotate_left
      · (intro w hSw; have ck := (HK1.out _ (hSw).2).2; have k0 := ck 0; have k1 := ck 1; simp at k0 k1; clear ck; have cq := (HK2.out _ (hSw).2).2; have k2 := cq 0; have k3 := cq 1; have k4 := cq 2; simp at k2 k3 k4; clear cq; go_simp <;> with_reducible rfl)
      try simp only [Act.put, List.setIfInBounds_toArray, List.set_cons_zero, List.set_cons_succ]
      refine wpAnyH_take (i := 2) (oi := { dst := some 18, op := _, type := _, pos := _, after := _, guard := _ }) (v := ?_) rfl (by kernel_rfl) (by kernel_rfl) (by kernel_rfl) (fun _ _ _ h => h) (Or.inl ⟨by rfl, ?_⟩) hHeld ?_
      rotate_left
      · (intro w hSw; have ck := (HK1.out _ (hSw).2).2; have k0 := ck 0; have k1 := ck 1; simp at k0 k1; clear ck; have cq := (HK2.out _ (hSw).2).2; have k2 := cq 0; have k3 := cq 1; have k4 := cq 2; simp at k2 k3 k4; clear cq; go_simp <;> with_reducible rfl)
      try simp only [Act.put, List.setIfInBounds_toArray, List.set_cons_zero, List.set_cons_succ]
      refine wpAnyH_take (i := 4) (oi := { dst := some 20, op := _, type := _, pos := _, after := _, guard := _ }) (v := ?_) rfl (by kernel_rfl) (by kernel_rfl) (by kernel_rfl) (fun _ _ _ h => h) (Or.inl ⟨by rfl, ?_⟩) hHeld ?_
      rotate_left
      · (intro w hSw; have ck := (HK1.out _ (hSw).2).2; have k0 := ck 0; have k1 := ck 1; simp at k0 k1; clear ck; have cq := (HK2.out _ (hSw).2).2; have k2 := cq 0; have k3 := cq 1; have k4 := cq 2; simp at k2 k3 k4; clear cq; go_simp <;> with_reducible rfl)
      try simp only [Act.put, List.setIfInBounds_toArray, List.set_cons_zero, List.set_cons_succ]
      refine wpAnyH_ready (rs := [3]) (by kernel_rfl) (by simp) ?_
      refine AllReadyH.cons (o := { dst := some 19, op := _, type := _, pos := _, after := _, guard := _ }) rfl (fun K hK => ?_) AllReadyH.nil
      go_simp
      refine (HLO.out _ (HSL.out _ hHeld.1) (HTB.out _ hHeld.1)).mono ?_
      rintro e u1 ⟨⟨A1, c1, rfl, ho1⟩, hk1⟩
      have hKeep := And.intro (since_step hHeld.1 hk1) (since_step hHeld.2 hk1)
      have hs1 := Sl.of_own ho1
      clear ho1
      go_wp2_with fail
      refine hK.out _ _ (by (try dsimp only); exact hKeep) (fun hHeld => ?_)
      clear hK K hKeep
      try simp only [Act.put, List.setIfInBounds_toArray, List.set_cons_zero, List.set_cons_succ]
      refine wpAnyH_ready (rs := [5]) (by kernel_rfl) (by simp) ?_
      refine AllReadyH.cons (o := { dst := some 21, op := _, type := _, pos := _, after := _, guard := _ }) rfl (fun K hK => ?_) AllReadyH.nil
      go_simp
      refine (HHO.out A1 c1 _ hs1).mono ?_
      rintro e u2 ⟨⟨A2, c2, rfl, ho2⟩, hk2⟩
      have hKeep := And.intro (since_step hHeld.1 hk2) (since_step hHeld.2 hk2)
      have hf2 : AtOr w.heap.size A2 := (AtOr.own ho2).mono hHeld.1.size
      go_wp2_with fail
      refine hK.out _ _ (by (try dsimp only); exact hKeep) (fun hHeld => ?_)
      clear hK K hKeep
      try simp only [Act.put, List.setIfInBounds_toArray, List.set_cons_zero, List.set_cons_succ]
      refine wpAnyH_take (i := 6) (oi := { dst := some 15, op := _, type := _, pos := _, after := _, guard := _ }) (v := ?_) rfl (by kernel_rfl) (by kernel_rfl) (by kernel_rfl) (fun _ _ _ h => h) (Or.inl ⟨by rfl, ?_⟩) hHeld ?_
      rotate_left
      · (intro w hSw; have ck := (HK1.out _ (hSw).2).2; have k0 := ck 0; have k1 := ck 1; simp at k0 k1; clear ck; have cq := (HK2.out _ (hSw).2).2; have k2 := cq 0; have k3 := cq 1; have k4 := cq 2; simp at k2 k3 k4; clear cq; go_simp <;> with_reducible rfl)
      try simp only [Act.put, List.setIfInBounds_toArray, List.set_cons_zero, List.set_cons_succ]
      refine wpAnyH_take (i := 7) (oi := { dst := some 22, op := _, type := _, pos := _, after := _, guard := _ }) (v := ?_) rfl (by kernel_rfl) (by kernel_rfl) (by kernel_rfl) (fun _ _ _ h => h) (Or.inl ⟨by rfl, ?_⟩) hHeld ?_
      rotate_left
      · (intro w hSw; have ck := (HK1.out _ (hSw).2).2; have k0 := ck 0; have k1 := ck 1; simp at k0 k1; clear ck; have cq := (HK2.out _ (hSw).2).2; have k2 := cq 0; have k3 := cq 1; have k4 := cq 2; simp at k2 k3 k4; clear cq; go_simp <;> with_reducible rfl)
      try simp only [Act.put, List.setIfInBounds_toArray, List.set_cons_zero, List.set_cons_succ]
      refine wpAnyH_take (i := 8) (oi := { dst := some 23, op := _, type := _, pos := _, after := _, guard := _ }) (v := ?_) rfl (by kernel_rfl) (by kernel_rfl) (by kernel_rfl) (fun _ _ _ h => h) (Or.inl ⟨by rfl, ?_⟩) hHeld ?_
      rotate_left
      · (intro w hSw; have ck := (HK1.out _ (hSw).2).2; have k0 := ck 0; have k1 := ck 1; simp at k0 k1; clear ck; have cq := (HK2.out _ (hSw).2).2; have k2 := cq 0; have k3 := cq 1; have k4 := cq 2; simp at k2 k3 k4; clear cq; go_simp <;> with_reducible rfl)
      try simp only [Act.put, List.setIfInBounds_toArray, List.set_cons_zero, List.set_cons_succ]
      refine wpAnyH_take (i := 9) (oi := { dst := some 10, op := _, type := _, pos := _, after := _, guard := _ }) (v := ?_) rfl (by kernel_rfl) (by kernel_rfl) (by kernel_rfl) (fun _ _ _ h => h) (Or.inl ⟨by rfl, ?_⟩) hHeld ?_
      rotate_left
      · (intro w hSw; have ck := (HK1.out _ (hSw).2).2; have k0 := ck 0; have k1 := ck 1; simp at k0 k1; clear ck; have cq := (HK2.out _ (hSw).2).2; have k2 := cq 0; have k3 := cq 1; have k4 := cq 2; simp at k2 k3 k4; clear cq; go_simp <;> with_reducible rfl)
      try simp only [Act.put, List.setIfInBounds_toArray, List.set_cons_zero, List.set_cons_succ]
      refine wpAnyH_take (i := 10) (oi := { dst := some 11, op := _, type := _, pos := _, after := _, guard := _ }) (v := ?_) rfl (by kernel_rfl) (by kernel_rfl) (by kernel_rfl) (fun _ _ _ h => h) (Or.inl ⟨by rfl, ?_⟩) hHeld ?_
      rotate_left
      · (intro w hSw; have ck := (HK1.out _ (hSw).2).2; have k0 := ck 0; have k1 := ck 1; simp at k0 k1; clear ck; have cq := (HK2.out _ (hSw).2).2; have k2 := cq 0; have k3 := cq 1; have k4 := cq 2; simp at k2 k3 k4; clear cq; go_simp <;> with_reducible rfl)
      try simp only [Act.put, List.setIfInBounds_toArray, List.set_cons_zero, List.set_cons_succ]
      refine wpAnyH_done (by kernel_rfl) ?_ _
      have hBz := hHeld.1
      go_wp2_with fail
      go_ret2
      rw [HR.out]
      exact ⟨HResN.nil _ _ _ _ _, hBz⟩

    · subst hn
      have hRi : isLs RL = true := (take_is hR).1
      have hRl := isLs_le hRi
      have hso := isH_sorted hi
      have HR := Lib.hid (chgHR_ok (how := fun m => takeLR m ⟨xa, xt, xq⟩) hi hR)
      have HWI := Lib.hid (fun A2 c2 V h1 h2 h3 => hset_anyN A cap l cs a c A2 c2 RL V hl hcl hRl h1 h2 h3)
      rw [setHR_ok hi hRi] at HWI
      clear hi hR
      go_enter Try.func129, Try.ntmps129
      go_wp2_with fail
      refine HIS.out.mono ?_
      rintro e w1 ⟨rfl, hb⟩
      have hB1 := since_step hB0 hb
      have HK1 : Hid (∀ V, Below w1.heap.size w1 V → Bk V w.heap.size #[.int .i64 a, .int .i64 c]) := Lib.hid fun V hV => (hK1.below hb).below hV
      have HK2 : Hid (∀ V, Below w1.heap.size w1 V → Bk V (w.heap.size + 1) #[.int .i64 xa, .int .i64 xt, .int .i64 xq]) := Lib.hid fun V hV => (hK2.below hb).below hV
      generalize lotsH cs a c = L0 at *
      clear hb hK1 hK2
      go_wp2_with fail
      refine wp_region_held_drew (S := (fun V => Below w.heap.size w V ∧ Below w1.heap.size w1 V)) (by kernel_rfl) (by exact ⟨hB1.drew, (Below.refl _ _).drew⟩) (fun hHeld => ?_)
      refine wpAnyH_take (i := 0) (oi := { dst := some 16, op := _, type := _, pos := _, after := _, guard := _ }) (v := ?_) rfl (by kernel_rfl) (by kernel_rfl) (by kernel_rfl) (fun _ _ _ h => h) (Or.inl ⟨by rfl, ?_⟩) hHeld ?_
      rotate_left
      · (intro w hSw; have ck := (HK1.out _ (hSw).2).2; have k0 := ck 0; have k1 := ck 1; simp at k0 k1; clear ck; have cq := (HK2.out _ (hSw).2).2; have k2 := cq 0; have k3 := cq 1; have k4 := cq 2; simp at k2 k3 k4; clear cq; go_simp <;> with_reducible rfl)
      try simp only [Act.put, List.setIfInBounds_toArray, List.set_cons_zero, List.set_cons_succ]
      refine wpAnyH_take (i := 1) (oi := { dst := some 17, op := _, type := _, pos := _, after := _, guard := _ }) (v := ?_) rfl (by kernel_rfl) (by kernel_rfl) (by kernel_rfl) (fun _ _ _ h => h) (Or.inl ⟨by rfl, ?_⟩) hHeld ?_
      rotate_left
      · (intro w hSw; have ck := (HK1.out _ (hSw).2).2; have k0 := ck 0; have k1 := ck 1; simp at k0 k1; clear ck; have cq := (HK2.out _ (hSw).2).2; have k2 := cq 0; have k3 := cq 1; have k4 := cq 2; simp at k2 k3 k4; clear cq; go_simp <;> with_reducible rfl)
      try simp only [Act.put, List.setIfInBounds_toArray, List.set_cons_zero, List.set_cons_succ]
      refine wpAnyH_take (i := 2) (oi := { dst := some 18, op := _, type := _, pos := _, after := _, guard := _ }) (v := ?_) rfl (by kernel_rfl) (by kernel_rfl) (by kernel_rfl) (fun _ _ _ h => h) (Or.inl ⟨by rfl, ?_⟩) hHeld ?_
      rotate_left
      · (intro w hSw; have ck := (HK1.out _ (hSw).2).2; have k0 := ck 0; have k1 := ck 1; simp at k0 k1; clear ck; have cq := (HK2.out _ (hSw).2).2; have k2 := cq 0; have k3 := cq 1; have k4 := cq 2; simp at k2 k3 k4; clear cq; go_simp <;> with_reducible rfl)
      try simp only [Act.put, List.setIfInBounds_toArray, List.set_cons_zero, List.set_cons_succ]
      refine wpAnyH_take (i := 4) (oi := { dst := some 20, op := _, type := _, pos := _, after := _, guard := _ }) (v := ?_) rfl (by kernel_rfl) (by kernel_rfl) (by kernel_rfl) (fun _ _ _ h => h) (Or.inl ⟨by rfl, ?_⟩) hHeld ?_
      rotate_left
      · (intro w hSw; have ck := (HK1.out _ (hSw).2).2; have k0 := ck 0; have k1 := ck 1; simp at k0 k1; clear ck; have cq := (HK2.out _ (hSw).2).2; have k2 := cq 0; have k3 := cq 1; have k4 := cq 2; simp at k2 k3 k4; clear cq; go_simp <;> with_reducible rfl)
      try simp only [Act.put, List.setIfInBounds_toArray, List.set_cons_zero, List.set_cons_succ]
      refine wpAnyH_ready (rs := [3]) (by kernel_rfl) (by simp) ?_
      refine AllReadyH.cons (o := { dst := some 19, op := _, type := _, pos := _, after := _, guard := _ }) rfl (fun K hK => ?_) AllReadyH.nil
      go_simp
      refine (HLO.out _ (HSL.out _ hHeld.1) (HTB.out _ hHeld.1)).mono ?_
      rintro e u1 ⟨⟨A1, c1, rfl, ho1⟩, hk1⟩
      have hKeep := And.intro (since_step hHeld.1 hk1) (since_step hHeld.2 hk1)
      have hs1 := Sl.of_own ho1
      clear ho1
      go_wp2_with fail
      refine hK.out _ _ (by (try dsimp only); exact hKeep) (fun hHeld => ?_)
      clear hK K hKeep
      try simp only [Act.put, List.setIfInBounds_toArray, List.set_cons_zero, List.set_cons_succ]
      refine wpAnyH_ready (rs := [5]) (by kernel_rfl) (by simp) ?_
      refine AllReadyH.cons (o := { dst := some 21, op := _, type := _, pos := _, after := _, guard := _ }) rfl (fun K hK => ?_) AllReadyH.nil
      go_simp
      refine (HHO.out A1 c1 _ hs1).mono ?_
      rintro e u2 ⟨⟨A2, c2, rfl, ho2⟩, hk2⟩
      have hKeep := And.intro (since_step hHeld.1 hk2) (since_step hHeld.2 hk2)
      have hf2 : AtOr w.heap.size A2 := (AtOr.own ho2).mono hHeld.1.size
      go_wp2_with fail
      refine hK.out _ _ (by (try dsimp only); exact hKeep) (fun hHeld => ?_)
      clear hK K hKeep
      try simp only [Act.put, List.setIfInBounds_toArray, List.set_cons_zero, List.set_cons_succ]
      refine wpAnyH_take (i := 6) (oi := { dst := some 15, op := _, type := _, pos := _, after := _, guard := _ }) (v := ?_) rfl (by kernel_rfl) (by kernel_rfl) (by kernel_rfl) (fun _ _ _ h => h) (Or.inl ⟨by rfl, ?_⟩) hHeld ?_
      rotate_left
      · (intro w hSw; have ck := (HK1.out _ (hSw).2).2; have k0 := ck 0; have k1 := ck 1; simp at k0 k1; clear ck; have cq := (HK2.out _ (hSw).2).2; have k2 := cq 0; have k3 := cq 1; have k4 := cq 2; simp at k2 k3 k4; clear cq; go_simp <;> with_reducible rfl)
      try simp only [Act.put, List.setIfInBounds_toArray, List.set_cons_zero, List.set_cons_succ]
      refine wpAnyH_take (i := 7) (oi := { dst := some 22, op := _, type := _, pos := _, after := _, guard := _ }) (v := ?_) rfl (by kernel_rfl) (by kernel_rfl) (by kernel_rfl) (fun _ _ _ h => h) (Or.inl ⟨by rfl, ?_⟩) hHeld ?_
      rotate_left
      · (intro w hSw; have ck := (HK1.out _ (hSw).2).2; have k0 := ck 0; have k1 := ck 1; simp at k0 k1; clear ck; have cq := (HK2.out _ (hSw).2).2; have k2 := cq 0; have k3 := cq 1; have k4 := cq 2; simp at k2 k3 k4; clear cq; go_simp <;> with_reducible rfl)
      try simp only [Act.put, List.setIfInBounds_toArray, List.set_cons_zero, List.set_cons_succ]
      refine wpAnyH_take (i := 8) (oi := { dst := some 23, op := _, type := _, pos := _, after := _, guard := _ }) (v := ?_) rfl (by kernel_rfl) (by kernel_rfl) (by kernel_rfl) (fun _ _ _ h => h) (Or.inl ⟨by rfl, ?_⟩) hHeld ?_
      rotate_left
      · (intro w hSw; have ck := (HK1.out _ (hSw).2).2; have k0 := ck 0; have k1 := ck 1; simp at k0 k1; clear ck; have cq := (HK2.out _ (hSw).2).2; have k2 := cq 0; have k3 := cq 1; have k4 := cq 2; simp at k2 k3 k4; clear cq; go_simp <;> with_reducible rfl)
      try simp only [Act.put, List.setIfInBounds_toArray, List.set_cons_zero, List.set_cons_succ]
      refine wpAnyH_take (i := 9) (oi := { dst := some 10, op := _, type := _, pos := _, after := _, guard := _ }) (v := ?_) rfl (by kernel_rfl) (by kernel_rfl) (by kernel_rfl) (fun _ _ _ h => h) (Or.inl ⟨by rfl, ?_⟩) hHeld ?_
      rotate_left
      · (intro w hSw; have ck := (HK1.out _ (hSw).2).2; have k0 := ck 0; have k1 := ck 1; simp at k0 k1; clear ck; have cq := (HK2.out _ (hSw).2).2; have k2 := cq 0; have k3 := cq 1; have k4 := cq 2; simp at k2 k3 k4; clear cq; go_simp <;> with_reducible rfl)
      try simp only [Act.put, List.setIfInBounds_toArray, List.set_cons_zero, List.set_cons_succ]
      refine wpAnyH_take (i := 10) (oi := { dst := some 11, op := _, type := _, pos := _, after := _, guard := _ }) (v := ?_) rfl (by kernel_rfl) (by kernel_rfl) (by kernel_rfl) (fun _ _ _ h => h) (Or.inl ⟨by rfl, ?_⟩) hHeld ?_
      rotate_left
      · (intro w hSw; have ck := (HK1.out _ (hSw).2).2; have k0 := ck 0; have k1 := ck 1; simp at k0 k1; clear ck; have cq := (HK2.out _ (hSw).2).2; have k2 := cq 0; have k3 := cq 1; have k4 := cq 2; simp at k2 k3 k4; clear cq; go_simp <;> with_reducible rfl)
      try simp only [Act.put, List.setIfInBounds_toArray, List.set_cons_zero, List.set_cons_succ]
      refine wpAnyH_done (by kernel_rfl) ?_ _
      have hBz := hHeld.1
      have ck := (HK1.out _ hHeld.2).2
      have k0 := ck 0
      have k1 := ck 1
      simp at k0 k1
      clear ck
      have hs2 := Sl.of_own ho2
      have HW := Lib.hid (HWI.out A2 c2 _ (HSL.out _ hBz) (HTB.out _ hBz) hs2)
      go_wp2_with fail
      have hzz := hBz.size
      refine HW.out.mono ?_
      rintro e u3 ⟨⟨l3, A3, c3, rfl, hs3, ht3, hc3⟩, hk3⟩
      have hBz := since_step hBz hk3
      go_wp2_with fail
      go_ret2
      rw [HR.out]
      exact ⟨⟨l3, A3, c3, rfl, hs3, ht3, hc3.1, hc3.2.1.mono hzz, hc3.2.2.imp fun A h => h.mono hzz⟩, hBz⟩
set_option maxHeartbeats 4000000 in
set_option maxRecDepth 100000 in
theorem htake_anyN (A : Option Addr) (cap : Nat) (l : List Hd) (cs : List Hc) (a c xa xt xq : Int) (w : World) (hl : l.length ≤ 900000) (hcl : ∀ g ∈ cs, g.L.length ≤ 900000) (hx : In64 xq) (h6 : ∀ g ∈ cs, ∀ y ∈ g.L, In64 y.qty) (hs : Sl w A (rc Hd.cells l)) (ht : HdTab w l cs) :
    Calls Try.prog 67 #[.slice A l.length cap, .agg #[.int .i64 a, .int .i64 c], .agg #[.int .i64 xa, .int .i64 xt, .int .i64 xq]] w fun e w' => HResN l (AtOr w.heap.size) w.heap.size w' e (chgHR (fun m => takeLR m ⟨xa, xt, xq⟩) cs a c) ∧ Below w.heap.size w w' := by
  have hB0 := since_alloc (since_alloc (Below.refl _ w) (.cells #[.int .i64 a, .int .i64 c] 24)) (.cells #[.int .i64 xa, .int .i64 xt, .int .i64 xq] 93)
  have hK1 := (Bk.new w #[.int .i64 a, .int .i64 c] 24).alloc (.cells #[.int .i64 xa, .int .i64 xt, .int .i64 xq] 93)
  have hK2 := Bk.new (w.alloc (.cells #[.int .i64 a, .int .i64 c] 24)) #[.int .i64 xa, .int .i64 xt, .int .i64 xq] 93
  rw [World.size_alloc] at hK2
  have HC := Lib.hid (hchange_takeN A cap l cs a c xa xt xq _ hl hcl hx h6 ((hs.alloc (.cells #[.int .i64 a, .int .i64 c] 24)).alloc (.cells #[.int .i64 xa, .int .i64 xt, .int .i64 xq] 93)) (ht.below hB0))
  have HZ := Lib.hid hB0.size
  generalize chgHR (fun m => takeLR m ⟨xa, xt, xq⟩) cs a c = RR at *
  obtain ⟨rn, RL⟩ := RR
  unfold HResN at HC ⊢
  simp only at HC ⊢
  clear hs ht
  go_enter Try.func67, Try.ntmps67
  go_wp2_with fail
  refine HC.out.mono ?_
  rintro e w1 ⟨⟨l3, A3, c3, rfl, hs3, ht3, hc3, hat, hfa⟩, hb⟩
  have hB1 := since_step hB0 hb
  go_wp2_with fail
  go_ret2
  exact ⟨⟨l3, A3, c3, rfl, hs3, ht3, hc3, hat.mono HZ.out, hfa.imp fun A h => h.mono HZ.out⟩, hB1⟩
set_option maxHeartbeats 8000000 in
set_option maxRecDepth 100000 in
theorem rhtake_anyN (A : Option Addr) (cap : Nat) (l : List Hd) (cs : List Hc) (a c xa xt xq : Int) (w : World) (hl : l.length ≤ 900000) (hcl : ∀ g ∈ cs, g.L.length ≤ 900000) (hx : In64 xq) (h6 : ∀ g ∈ cs, ∀ y ∈ g.L, In64 y.qty) (hcap : CapH A l.length cap) (hs : Sl w A (rc Hd.cells l)) (ht : HdTab w l cs) :
    Calls Try.prog 68 #[.slice A l.length cap, .agg #[.int .i64 a, .int .i64 c], .agg #[.int .i64 xa, .int .i64 xt, .int .i64 xq]] w fun e w' => HResN l (AtOr w.heap.size) w.heap.size w' e (chgHR (fun m => takeLR m ⟨xa, xt, xq⟩) cs a c) ∧ Below w.heap.size w w' := by
  have hB0 := since_alloc (since_alloc (Below.refl _ w) (.cells #[.int .i64 a, .int .i64 c] 24)) (.cells #[.int .i64 xa, .int .i64 xt, .int .i64 xq] 93)
  have hK1 := (Bk.new w #[.int .i64 a, .int .i64 c] 24).alloc (.cells #[.int .i64 xa, .int .i64 xt, .int .i64 xq] 93)
  have hK2 := Bk.new (w.alloc (.cells #[.int .i64 a, .int .i64 c] 24)) #[.int .i64 xa, .int .i64 xt, .int .i64 xq] 93
  rw [World.size_alloc] at hK2
  have HIS := Lib.hid (rhis_any A cap l cs _ hl hcl ((hs.alloc (.cells #[.int .i64 a, .int .i64 c] 24)).alloc (.cells #[.int .i64 xa, .int .i64 xt, .int .i64 xq] 93)) (ht.below hB0))
  have HSL : Hid (∀ V, Below w.heap.size w V → Sl V A (rc Hd.cells l)) := Lib.hid fun V hV => hs.below hV
  have HTB : Hid (∀ V, Below w.heap.size w V → HdTab V l cs) := Lib.hid fun V hV => ht.below hV
  have HLO := Lib.hid (fun V h1 h2 => rhlots_any A cap l cs a c V hl h1 h2)
  have hlen := lotsH_len hcl a c
  have hl6 := lots_in6 h6 a c
  have HHO := Lib.hid (fun A1 c1 V h1 => rtake_any A1 c1 (lotsH cs a c) ⟨xa, xt, xq⟩ V hlen hx hl6 h1)
  obtain ⟨rn, RL, hR⟩ : ∃ rn RL, takeLR (lotsH cs a c) ⟨xa, xt, xq⟩ = (rn, RL) := ⟨_, _, rfl⟩
  rw [hR] at HHO
  unfold LRes Lt.val at HHO
  simp only at HHO
  clear hs ht
  cases hi : isH cs with
  | false =>
    have HR := Lib.hid (chgHR_form (how := fun m => takeLR m ⟨xa, xt, xq⟩) (a := a) (c := c) hi)
    rw [hi] at HIS
    clear hi hR
    go_enter Try.func68, Try.ntmps68
    go_wp2_with fail
    refine HIS.out.mono ?_
    rintro e w1 ⟨rfl, hb⟩
    have hB1 := since_step hB0 hb
    go_wp2_with fail
    go_ret2
    rw [HR.out]
    exact ⟨HResN.nil _ _ _ _ _, hB1⟩
  | true =>
    rw [hi] at HIS
    by_cases hn : rn = 0
    rotate_left
    · have HR := Lib.hid (chgHR_err (how := fun m => takeLR m ⟨xa, xt, xq⟩) hi hR hn)
      have hnb : (rn != 0) = true := by simpa using hn
      have hnb2 : (rn == 0) = false := by simpa using hn
      clear hi hR hn
      go_enter Try.func68, Try.ntmps68
      go_wp2_with fail
      refine HIS.out.mono ?_
      rintro e w1 ⟨rfl, hb⟩
      have hB1 := since_step hB0 hb
      have HK1 : Hid (∀ V, Below w1.heap.size w1 V → Bk V w.heap.size #[.int .i64 a, .int .i64 c]) := Lib.hid fun V hV => (hK1.below hb).below hV
      have HK2 : Hid (∀ V, Below w1.heap.size w1 V → Bk V (w.heap.size + 1) #[.int .i64 xa, .int .i64 xt, .int .i64 xq]) := Lib.hid fun V hV => (hK2.below hb).below hV
      generalize lotsH cs a c = L0 at *
      clear hb hK1 hK2
      go_wp2_with fail
      refine wp_region_held_drew (S := (fun V => Below w.heap.size w V ∧ Below w1.heap.size w1 V)) (by kernel_rfl) (by exact ⟨hB1.drew, (Below.refl _ _).drew⟩) (fun hHeld => ?_)
      refine wpAnyH_take (i := 0) (oi := { dst := some 14, op := _, type := _, pos := _, after := _, guard := _ }) (v := ?_) rfl (by kernel_rfl) (by kernel_rfl) (by kernel_rfl) (fun _ _ _ h => h) (Or.inl ⟨by rfl, ?_⟩) hHeld ?_
      rotate_left
      · (intro w hSw; have ck := (HK1.out _ (hSw).2).2; have k0 := ck 0; have k1 := ck 1; simp at k0 k1; clear ck; have cq := (HK2.out _ (hSw).2).2; have k2 := cq 0; have k3 := cq 1; have k4 := cq 2; simp at k2 k3 k4; clear cq; go_simp <;> with_reducible rfl)
      try simp only [Act.put, List.setIfInBounds_toArray, List.set_cons_zero, List.set_cons_succ]
      refine wpAnyH_take (i := 1) (oi := { dst := some 15, op := _, type := _, pos := _, after := _, guard := _ }) (v := ?_) rfl (by kernel_rfl) (by kernel_rfl) (by kernel_rfl) (fun _ _ _ h => h) (Or.inl ⟨by rfl, ?_⟩) hHeld ?_
      rotate_left
      · (intro w hSw; have ck := (HK1.out _ (hSw).2).2; have k0 := ck 0; have k1 := ck 1; simp at k0 k1; clear ck; have cq := (HK2.out _ (hSw).2).2; have k2 := cq 0; have k3 := cq 1; have k4 := cq 2; simp at k2 k3 k4; clear cq; go_simp <;> with_reducible rfl)
      try simp only [Act.put, List.setIfInBounds_toArray, List.set_cons_zero, List.set_cons_succ]
      refine wpAnyH_take (i := 3) (oi := { dst := some 17, op := _, type := _, pos := _, after := _, guard := _ }) (v := ?_) rfl (by kernel_rfl) (by kernel_rfl) (by kernel_rfl) (fun _ _ _ h => h) (Or.inl ⟨by rfl, ?_⟩) hHeld ?_
      rotate_left
      · (intro w hSw; have ck := (HK1.out _ (hSw).2).2; have k0 := ck 0; have k1 := ck 1; simp at k0 k1; clear ck; have cq := (HK2.out _ (hSw).2).2; have k2 := cq 0; have k3 := cq 1; have k4 := cq 2; simp at k2 k3 k4; clear cq; go_simp <;> with_reducible rfl)
      try simp only [Act.put, List.setIfInBounds_toArray, List.set_cons_zero, List.set_cons_succ]
      refine wpAnyH_ready (rs := [2]) (by kernel_rfl) (by simp) ?_
      refine AllReadyH.cons (o := { dst := some 16, op := _, type := _, pos := _, after := _, guard := _ }) rfl (fun K hK => ?_) AllReadyH.nil
      go_simp
      refine (HLO.out _ (HSL.out _ hHeld.1) (HTB.out _ hHeld.1)).mono ?_
      rintro e u1 ⟨⟨A1, c1, rfl, ho1⟩, hk1⟩
      have hKeep := And.intro (since_step hHeld.1 hk1) (since_step hHeld.2 hk1)
      have hs1 := ho1
      clear ho1
      go_wp2_with fail
      refine hK.out _ _ (by (try dsimp only); exact hKeep) (fun hHeld => ?_)
      clear hK K hKeep
      try simp only [Act.put, List.setIfInBounds_toArray, List.set_cons_zero, List.set_cons_succ]
      refine wpAnyH_ready (rs := [4]) (by kernel_rfl) (by simp) ?_
      refine AllReadyH.cons (o := { dst := some 18, op := _, type := _, pos := _, after := _, guard := _ }) rfl (fun K hK => ?_) AllReadyH.nil
      go_simp
      refine (HHO.out A1 c1 _ hs1).mono ?_
      rintro e u2 ⟨⟨A2, c2, rfl, ho2⟩, hk2⟩
      have hKeep := And.intro (since_step hHeld.1 hk2) (since_step hHeld.2 hk2)
      have hf2 : AtOr w.heap.size A2 := (AtOr.own ho2).mono hHeld.1.size
      go_wp2_with fail
      refine hK.out _ _ (by (try dsimp only); exact hKeep) (fun hHeld => ?_)
      clear hK K hKeep
      try simp only [Act.put, List.setIfInBounds_toArray, List.set_cons_zero, List.set_cons_succ]
      refine wpAnyH_take (i := 5) (oi := { dst := some 13, op := _, type := _, pos := _, after := _, guard := _ }) (v := ?_) rfl (by kernel_rfl) (by kernel_rfl) (by kernel_rfl) (fun _ _ _ h => h) (Or.inl ⟨by rfl, ?_⟩) hHeld ?_
      rotate_left
      · (intro w hSw; have ck := (HK1.out _ (hSw).2).2; have k0 := ck 0; have k1 := ck 1; simp at k0 k1; clear ck; have cq := (HK2.out _ (hSw).2).2; have k2 := cq 0; have k3 := cq 1; have k4 := cq 2; simp at k2 k3 k4; clear cq; go_simp <;> with_reducible rfl)
      try simp only [Act.put, List.setIfInBounds_toArray, List.set_cons_zero, List.set_cons_succ]
      refine wpAnyH_take (i := 6) (oi := { dst := some 19, op := _, type := _, pos := _, after := _, guard := _ }) (v := ?_) rfl (by kernel_rfl) (by kernel_rfl) (by kernel_rfl) (fun _ _ _ h => h) (Or.inl ⟨by rfl, ?_⟩) hHeld ?_
      rotate_left
      · (intro w hSw; have ck := (HK1.out _ (hSw).2).2; have k0 := ck 0; have k1 := ck 1; simp at k0 k1; clear ck; have cq := (HK2.out _ (hSw).2).2; have k2 := cq 0; have k3 := cq 1; have k4 := cq 2; simp at k2 k3 k4; clear cq; go_simp <;> with_reducible rfl)
      try simp only [Act.put, List.setIfInBounds_toArray, List.set_cons_zero, List.set_cons_succ]
      refine wpAnyH_take (i := 7) (oi := { dst := some 20, op := _, type := _, pos := _, after := _, guard := _ }) (v := ?_) rfl (by kernel_rfl) (by kernel_rfl) (by kernel_rfl) (fun _ _ _ h => h) (Or.inl ⟨by rfl, ?_⟩) hHeld ?_
      rotate_left
      · (intro w hSw; have ck := (HK1.out _ (hSw).2).2; have k0 := ck 0; have k1 := ck 1; simp at k0 k1; clear ck; have cq := (HK2.out _ (hSw).2).2; have k2 := cq 0; have k3 := cq 1; have k4 := cq 2; simp at k2 k3 k4; clear cq; go_simp <;> with_reducible rfl)
      try simp only [Act.put, List.setIfInBounds_toArray, List.set_cons_zero, List.set_cons_succ]
      refine wpAnyH_take (i := 8) (oi := { dst := some 8, op := _, type := _, pos := _, after := _, guard := _ }) (v := ?_) rfl (by kernel_rfl) (by kernel_rfl) (by kernel_rfl) (fun _ _ _ h => h) (Or.inl ⟨by rfl, ?_⟩) hHeld ?_
      rotate_left
      · (intro w hSw; have ck := (HK1.out _ (hSw).2).2; have k0 := ck 0; have k1 := ck 1; simp at k0 k1; clear ck; have cq := (HK2.out _ (hSw).2).2; have k2 := cq 0; have k3 := cq 1; have k4 := cq 2; simp at k2 k3 k4; clear cq; go_simp <;> with_reducible rfl)
      try simp only [Act.put, List.setIfInBounds_toArray, List.set_cons_zero, List.set_cons_succ]
      refine wpAnyH_take (i := 9) (oi := { dst := some 9, op := _, type := _, pos := _, after := _, guard := _ }) (v := ?_) rfl (by kernel_rfl) (by kernel_rfl) (by kernel_rfl) (fun _ _ _ h => h) (Or.inl ⟨by rfl, ?_⟩) hHeld ?_
      rotate_left
      · (intro w hSw; have ck := (HK1.out _ (hSw).2).2; have k0 := ck 0; have k1 := ck 1; simp at k0 k1; clear ck; have cq := (HK2.out _ (hSw).2).2; have k2 := cq 0; have k3 := cq 1; have k4 := cq 2; simp at k2 k3 k4; clear cq; go_simp <;> with_reducible rfl)
      try simp only [Act.put, List.setIfInBounds_toArray, List.set_cons_zero, List.set_cons_succ]
      refine wpAnyH_done (by kernel_rfl) ?_ _
      have hBz := hHeld.1
      go_wp2_with fail
      go_ret2
      rw [HR.out]
      exact ⟨HResN.nil _ _ _ _ _, hBz⟩

    · subst hn
      have hRi : isLs RL = true := (take_is hR).1
      have hRl := isLs_le hRi
      have hso := isH_sorted hi
      have HR := Lib.hid (chgHR_ok (how := fun m => takeLR m ⟨xa, xt, xq⟩) hi hR)
      have HWI := Lib.hid (fun A2 c2 V h1 h2 h3 => rhwith_anyN A cap l cs a c A2 c2 RL V hl hcap h1 h2 hso h3)
      clear hi hR
      go_enter Try.func68, Try.ntmps68
      go_wp2_with fail
      refine HIS.out.mono ?_
      rintro e w1 ⟨rfl, hb⟩
      have hB1 := since_step hB0 hb
      have HK1 : Hid (∀ V, Below w1.heap.size w1 V → Bk V w.heap.size #[.int .i64 a, .int .i64 c]) := Lib.hid fun V hV => (hK1.below hb).below hV
      have HK2 : Hid (∀ V, Below w1.heap.size w1 V → Bk V (w.heap.size + 1) #[.int .i64 xa, .int .i64 xt, .int .i64 xq]) := Lib.hid fun V hV => (hK2.below hb).below hV
      generalize lotsH cs a c = L0 at *
      clear hb hK1 hK2
      go_wp2_with fail
      refine wp_region_held_drew (S := (fun V => Below w.heap.size w V ∧ Below w1.heap.size w1 V)) (by kernel_rfl) (by exact ⟨hB1.drew, (Below.refl _ _).drew⟩) (fun hHeld => ?_)
      refine wpAnyH_take (i := 0) (oi := { dst := some 14, op := _, type := _, pos := _, after := _, guard := _ }) (v := ?_) rfl (by kernel_rfl) (by kernel_rfl) (by kernel_rfl) (fun _ _ _ h => h) (Or.inl ⟨by rfl, ?_⟩) hHeld ?_
      rotate_left
      · (intro w hSw; have ck := (HK1.out _ (hSw).2).2; have k0 := ck 0; have k1 := ck 1; simp at k0 k1; clear ck; have cq := (HK2.out _ (hSw).2).2; have k2 := cq 0; have k3 := cq 1; have k4 := cq 2; simp at k2 k3 k4; clear cq; go_simp <;> with_reducible rfl)
      try simp only [Act.put, List.setIfInBounds_toArray, List.set_cons_zero, List.set_cons_succ]
      refine wpAnyH_take (i := 1) (oi := { dst := some 15, op := _, type := _, pos := _, after := _, guard := _ }) (v := ?_) rfl (by kernel_rfl) (by kernel_rfl) (by kernel_rfl) (fun _ _ _ h => h) (Or.inl ⟨by rfl, ?_⟩) hHeld ?_
      rotate_left
      · (intro w hSw; have ck := (HK1.out _ (hSw).2).2; have k0 := ck 0; have k1 := ck 1; simp at k0 k1; clear ck; have cq := (HK2.out _ (hSw).2).2; have k2 := cq 0; have k3 := cq 1; have k4 := cq 2; simp at k2 k3 k4; clear cq; go_simp <;> with_reducible rfl)
      try simp only [Act.put, List.setIfInBounds_toArray, List.set_cons_zero, List.set_cons_succ]
      refine wpAnyH_take (i := 3) (oi := { dst := some 17, op := _, type := _, pos := _, after := _, guard := _ }) (v := ?_) rfl (by kernel_rfl) (by kernel_rfl) (by kernel_rfl) (fun _ _ _ h => h) (Or.inl ⟨by rfl, ?_⟩) hHeld ?_
      rotate_left
      · (intro w hSw; have ck := (HK1.out _ (hSw).2).2; have k0 := ck 0; have k1 := ck 1; simp at k0 k1; clear ck; have cq := (HK2.out _ (hSw).2).2; have k2 := cq 0; have k3 := cq 1; have k4 := cq 2; simp at k2 k3 k4; clear cq; go_simp <;> with_reducible rfl)
      try simp only [Act.put, List.setIfInBounds_toArray, List.set_cons_zero, List.set_cons_succ]
      refine wpAnyH_ready (rs := [2]) (by kernel_rfl) (by simp) ?_
      refine AllReadyH.cons (o := { dst := some 16, op := _, type := _, pos := _, after := _, guard := _ }) rfl (fun K hK => ?_) AllReadyH.nil
      go_simp
      refine (HLO.out _ (HSL.out _ hHeld.1) (HTB.out _ hHeld.1)).mono ?_
      rintro e u1 ⟨⟨A1, c1, rfl, ho1⟩, hk1⟩
      have hKeep := And.intro (since_step hHeld.1 hk1) (since_step hHeld.2 hk1)
      have hs1 := ho1
      clear ho1
      go_wp2_with fail
      refine hK.out _ _ (by (try dsimp only); exact hKeep) (fun hHeld => ?_)
      clear hK K hKeep
      try simp only [Act.put, List.setIfInBounds_toArray, List.set_cons_zero, List.set_cons_succ]
      refine wpAnyH_ready (rs := [4]) (by kernel_rfl) (by simp) ?_
      refine AllReadyH.cons (o := { dst := some 18, op := _, type := _, pos := _, after := _, guard := _ }) rfl (fun K hK => ?_) AllReadyH.nil
      go_simp
      refine (HHO.out A1 c1 _ hs1).mono ?_
      rintro e u2 ⟨⟨A2, c2, rfl, ho2⟩, hk2⟩
      have hKeep := And.intro (since_step hHeld.1 hk2) (since_step hHeld.2 hk2)
      have hf2 : AtOr w.heap.size A2 := (AtOr.own ho2).mono hHeld.1.size
      go_wp2_with fail
      refine hK.out _ _ (by (try dsimp only); exact hKeep) (fun hHeld => ?_)
      clear hK K hKeep
      try simp only [Act.put, List.setIfInBounds_toArray, List.set_cons_zero, List.set_cons_succ]
      refine wpAnyH_take (i := 5) (oi := { dst := some 13, op := _, type := _, pos := _, after := _, guard := _ }) (v := ?_) rfl (by kernel_rfl) (by kernel_rfl) (by kernel_rfl) (fun _ _ _ h => h) (Or.inl ⟨by rfl, ?_⟩) hHeld ?_
      rotate_left
      · (intro w hSw; have ck := (HK1.out _ (hSw).2).2; have k0 := ck 0; have k1 := ck 1; simp at k0 k1; clear ck; have cq := (HK2.out _ (hSw).2).2; have k2 := cq 0; have k3 := cq 1; have k4 := cq 2; simp at k2 k3 k4; clear cq; go_simp <;> with_reducible rfl)
      try simp only [Act.put, List.setIfInBounds_toArray, List.set_cons_zero, List.set_cons_succ]
      refine wpAnyH_take (i := 6) (oi := { dst := some 19, op := _, type := _, pos := _, after := _, guard := _ }) (v := ?_) rfl (by kernel_rfl) (by kernel_rfl) (by kernel_rfl) (fun _ _ _ h => h) (Or.inl ⟨by rfl, ?_⟩) hHeld ?_
      rotate_left
      · (intro w hSw; have ck := (HK1.out _ (hSw).2).2; have k0 := ck 0; have k1 := ck 1; simp at k0 k1; clear ck; have cq := (HK2.out _ (hSw).2).2; have k2 := cq 0; have k3 := cq 1; have k4 := cq 2; simp at k2 k3 k4; clear cq; go_simp <;> with_reducible rfl)
      try simp only [Act.put, List.setIfInBounds_toArray, List.set_cons_zero, List.set_cons_succ]
      refine wpAnyH_take (i := 7) (oi := { dst := some 20, op := _, type := _, pos := _, after := _, guard := _ }) (v := ?_) rfl (by kernel_rfl) (by kernel_rfl) (by kernel_rfl) (fun _ _ _ h => h) (Or.inl ⟨by rfl, ?_⟩) hHeld ?_
      rotate_left
      · (intro w hSw; have ck := (HK1.out _ (hSw).2).2; have k0 := ck 0; have k1 := ck 1; simp at k0 k1; clear ck; have cq := (HK2.out _ (hSw).2).2; have k2 := cq 0; have k3 := cq 1; have k4 := cq 2; simp at k2 k3 k4; clear cq; go_simp <;> with_reducible rfl)
      try simp only [Act.put, List.setIfInBounds_toArray, List.set_cons_zero, List.set_cons_succ]
      refine wpAnyH_take (i := 8) (oi := { dst := some 8, op := _, type := _, pos := _, after := _, guard := _ }) (v := ?_) rfl (by kernel_rfl) (by kernel_rfl) (by kernel_rfl) (fun _ _ _ h => h) (Or.inl ⟨by rfl, ?_⟩) hHeld ?_
      rotate_left
      · (intro w hSw; have ck := (HK1.out _ (hSw).2).2; have k0 := ck 0; have k1 := ck 1; simp at k0 k1; clear ck; have cq := (HK2.out _ (hSw).2).2; have k2 := cq 0; have k3 := cq 1; have k4 := cq 2; simp at k2 k3 k4; clear cq; go_simp <;> with_reducible rfl)
      try simp only [Act.put, List.setIfInBounds_toArray, List.set_cons_zero, List.set_cons_succ]
      refine wpAnyH_take (i := 9) (oi := { dst := some 9, op := _, type := _, pos := _, after := _, guard := _ }) (v := ?_) rfl (by kernel_rfl) (by kernel_rfl) (by kernel_rfl) (fun _ _ _ h => h) (Or.inl ⟨by rfl, ?_⟩) hHeld ?_
      rotate_left
      · (intro w hSw; have ck := (HK1.out _ (hSw).2).2; have k0 := ck 0; have k1 := ck 1; simp at k0 k1; clear ck; have cq := (HK2.out _ (hSw).2).2; have k2 := cq 0; have k3 := cq 1; have k4 := cq 2; simp at k2 k3 k4; clear cq; go_simp <;> with_reducible rfl)
      try simp only [Act.put, List.setIfInBounds_toArray, List.set_cons_zero, List.set_cons_succ]
      refine wpAnyH_done (by kernel_rfl) ?_ _
      have hBz := hHeld.1
      have ck := (HK1.out _ hHeld.2).2
      have k0 := ck 0
      have k1 := ck 1
      simp at k0 k1
      clear ck
      have hs2 := Sl.of_own ho2
      have HW := Lib.hid (HWI.out A2 c2 _ (HSL.out _ hBz) (HTB.out _ hBz) hs2)
      go_wp2_with fail
      have hzz := hBz.size
      refine HW.out.mono ?_
      rintro e u3 ⟨⟨l3, A3, c3, rfl, hs3, ht3, hc3⟩, hk3⟩
      have hBz := since_step hBz hk3
      go_wp2_with fail
      go_ret2
      rw [HR.out]
      exact ⟨⟨l3, A3, c3, rfl, hs3, ht3, hc3.1, hc3.2.1.mono hzz, hc3.2.2.imp fun A h => h ▸ hf2⟩, hBz⟩
set_option maxHeartbeats 8000000 in
set_option maxRecDepth 100000 in
theorem hpass_any (A : Option Addr) (cap : Nat) (l : List Hd) (cs : List Hc) (fa fc ta tc xa xt xq tag : Int) (w : World) (hl : l.length ≤ 800000) (hcl : ∀ g ∈ cs, g.L.length ≤ 900000) (hx : In64 xq) (h6 : ∀ g ∈ cs, ∀ y ∈ g.L, In64 y.qty) (hs : Sl w A (rc Hd.cells l)) (ht : HdTab w l cs) :
    Calls Try.prog 75 #[.slice A l.length cap, .agg #[.int .i64 fa, .int .i64 fc], .agg #[.int .i64 ta, .int .i64 tc], .agg #[.int .i64 xa, .int .i64 xt, .int .i64 xq], .int .i64 tag] w fun e w' => HRes w' e (passHR cs fa fc ta tc ⟨xa, xt, xq⟩ tag) ∧ Below w.heap.size w w' := by
  have hB0 := since_alloc (since_alloc (since_alloc (Below.refl _ w) (.cells #[.int .i64 fa, .int .i64 fc] 24)) (.cells #[.int .i64 ta, .int .i64 tc] 24)) (.cells #[.int .i64 xa, .int .i64 xt, .int .i64 xq] 93)
  have hK1 := ((Bk.new w #[.int .i64 fa, .int .i64 fc] 24).alloc (.cells #[.int .i64 ta, .int .i64 tc] 24)).alloc (.cells #[.int .i64 xa, .int .i64 xt, .int .i64 xq] 93)
  have hK2 : Bk (((w.alloc (.cells #[.int .i64 fa, .int .i64 fc] 24)).alloc (.cells #[.int .i64 ta, .int .i64 tc] 24)).alloc (.cells #[.int .i64 xa, .int .i64 xt, .int .i64 xq] 93)) (w.heap.size + 1) #[.int .i64 ta, .int .i64 tc] := by
    have h := (Bk.new (w.alloc (.cells #[.int .i64 fa, .int .i64 fc] 24)) #[.int .i64 ta, .int .i64 tc] 24).alloc (.cells #[.int .i64 xa, .int .i64 xt, .int .i64 xq] 93)
    rw [World.size_alloc] at h; exact h
  have hK3 : Bk (((w.alloc (.cells #[.int .i64 fa, .int .i64 fc] 24)).alloc (.cells #[.int .i64 ta, .int .i64 tc] 24)).alloc (.cells #[.int .i64 xa, .int .i64 xt, .int .i64 xq] 93)) (w.heap.size + 2) #[.int .i64 xa, .int .i64 xt, .int .i64 xq] := by
    have h := Bk.new ((w.alloc (.cells #[.int .i64 fa, .int .i64 fc] 24)).alloc (.cells #[.int .i64 ta, .int .i64 tc] 24)) #[.int .i64 xa, .int .i64 xt, .int .i64 xq] 93
    rw [World.size_alloc, World.size_alloc] at h; exact h
  have hF0 : ∀ i, (((w.alloc (.cells #[.int .i64 fa, .int .i64 fc] 24)).alloc (.cells #[.int .i64 ta, .int .i64 tc] 24)).alloc (.cells #[.int .i64 xa, .int .i64 xt, .int .i64 xq] 93)).frozen? ⟨w.heap.size + 2, i, none⟩ = false := fun i => by
    have h := fz_new ((w.alloc (.cells #[.int .i64 fa, .int .i64 fc] 24)).alloc (.cells #[.int .i64 ta, .int .i64 tc] 24)) #[.int .i64 xa, .int .i64 xt, .int .i64 xq] 93 i
    rw [World.size_alloc, World.size_alloc] at h; exact h
  have HIS := Lib.hid (his_any A cap l cs _ (by omega) hcl (((hs.alloc (.cells #[.int .i64 fa, .int .i64 fc] 24)).alloc (.cells #[.int .i64 ta, .int .i64 tc] 24)).alloc (.cells #[.int .i64 xa, .int .i64 xt, .int .i64 xq] 93)) (ht.below hB0))
  have HSL : Hid (∀ V, Below w.heap.size w V → Sl V A (rc Hd.cells l)) := Lib.hid fun V hV => hs.below hV
  have HTB : Hid (∀ V, Below w.heap.size w V → HdTab V l cs) := Lib.hid fun V hV => ht.below hV
  have HT0 := Lib.hid ht
  have hll : l.length ≤ 900000 := by omega
  have HTK := Lib.hid (fun V h1 h2 => htake_anyN A cap l cs fa fc xa xt xq V hll hcl hx h6 h1 h2)
  obtain ⟨rn, RL, hR⟩ : ∃ rn RL, chgHR (fun m => takeLR m ⟨xa, xt, xq⟩) cs fa fc = (rn, RL) := ⟨_, _, rfl⟩
  rw [hR] at HTK
  unfold HResN at HTK
  simp only at HTK
  have hlc := ht.1
  clear hs ht
  cases hi : isH cs with
  | false =>
      have HR := Lib.hid (passHR_form (fa := fa) (fc := fc) (ta := ta) (tc := tc) (x := ⟨xa, xt, xq⟩) (tag := tag) hi)
      rw [hi] at HIS
      clear hi hR hlc
      go_enter Try.func75, Try.ntmps75
      go_wp2_with fail
      refine HIS.out.mono ?_
      rintro e w1 ⟨rfl, hb⟩
      have hB1 := since_step hB0 hb
      have hK1 := hK1.below hb
      have hK2 := hK2.below hb
      have hF1 : ∀ i, w1.frozen? ⟨w.heap.size + 2, i, none⟩ = false := fun i => (hb.frozen (p := ⟨w.heap.size + 2, i, none⟩) hK3.1).trans (hF0 i)
      have hK3 := hK3.below hb
      have ck := hK1.2; have k0 := ck 0; have k1 := ck 1; simp at k0 k1; clear ck
      have ck := hK2.2; have k2 := ck 0; have k3 := ck 1; simp at k2 k3; clear ck
      have ck := hK3.2; have k4 := ck 0; have k5 := ck 1; have k6 := ck 2; simp at k4 k5 k6; clear ck
      have hz1 : w.heap.size + 2 < w1.heap.size := hK3.1
      clear hb hF0
      go_wp2_with fail
      go_ret2
      rw [HR.out]
      exact ⟨HRes.nil _ _, hB1⟩
  | true =>
    rw [hi] at HIS
    by_cases hq : fa = ta ∧ fc = tc
    · obtain ⟨rfl, rfl⟩ := hq
      have HR := Lib.hid (passHR_same (fa := fa) (fc := fc) (x := ⟨xa, xt, xq⟩) (tag := tag) hi)
      clear hi hR hlc
      go_enter Try.func75, Try.ntmps75
      go_wp2_with fail
      refine HIS.out.mono ?_
      rintro e w1 ⟨rfl, hb⟩
      have hB1 := since_step hB0 hb
      have hK1 := hK1.below hb
      have hK2 := hK2.below hb
      have hF1 : ∀ i, w1.frozen? ⟨w.heap.size + 2, i, none⟩ = false := fun i => (hb.frozen (p := ⟨w.heap.size + 2, i, none⟩) hK3.1).trans (hF0 i)
      have hK3 := hK3.below hb
      have ck := hK1.2; have k0 := ck 0; have k1 := ck 1; simp at k0 k1; clear ck
      have ck := hK2.2; have k2 := ck 0; have k3 := ck 1; simp at k2 k3; clear ck
      have ck := hK3.2; have k4 := ck 0; have k5 := ck 1; have k6 := ck 2; simp at k4 k5 k6; clear ck
      have hz1 : w.heap.size + 2 < w1.heap.size := hK3.1
      clear hb hF0
      go_wp2_with fail
      go_ret2
      rw [HR.out]
      exact ⟨HRes.nil _ _, hB1⟩
    have hqb : (fa == ta && fc == tc) = false := by
      rw [← Bool.not_eq_true]; simpa using hq
    by_cases hn : rn = 0
    rotate_left
    · have HR := Lib.hid (passHR_err (x := ⟨xa, xt, xq⟩) (tag := tag) hi hq hR hn)
      have hnb : (rn != 0) = true := by simpa using hn
      have hnb2 : (rn == 0) = false := by simpa using hn
      clear hi hR hn hlc
      rcases Classical.em (fa = ta) with h1 | h1
      · subst h1
        have h2b : (fc == tc) = false := by simpa using hq
        clear hq hqb
        go_enter Try.func75, Try.ntmps75
        go_wp2_with fail
        refine HIS.out.mono ?_
        rintro e w1 ⟨rfl, hb⟩
        have hB1 := since_step hB0 hb
        have hK1 := hK1.below hb
        have hK2 := hK2.below hb
        have hF1 : ∀ i, w1.frozen? ⟨w.heap.size + 2, i, none⟩ = false := fun i => (hb.frozen (p := ⟨w.heap.size + 2, i, none⟩) hK3.1).trans (hF0 i)
        have hK3 := hK3.below hb
        have ck := hK1.2; have k0 := ck 0; have k1 := ck 1; simp at k0 k1; clear ck
        have ck := hK2.2; have k2 := ck 0; have k3 := ck 1; simp at k2 k3; clear ck
        have ck := hK3.2; have k4 := ck 0; have k5 := ck 1; have k6 := ck 2; simp at k4 k5 k6; clear ck
        have hz1 : w.heap.size + 2 < w1.heap.size := hK3.1
        clear hb hF0
        go_wp2_with fail
        refine (HTK.out _ (HSL.out _ hB1) (HTB.out _ hB1)).mono ?_
        rintro e w2 ⟨⟨l2, A2, c2, rfl, hs2, ht2, hc2, hat2, hfa2⟩, hb⟩
        have hB2 := since_step hB1 hb
        go_wp2_with fail
        go_ret2
        rw [HR.out]
        exact ⟨HRes.nil _ _, hB2⟩
      · have h1b : (fa == ta) = false := by simpa using h1
        clear hq hqb h1
        go_enter Try.func75, Try.ntmps75
        go_wp2_with fail
        refine HIS.out.mono ?_
        rintro e w1 ⟨rfl, hb⟩
        have hB1 := since_step hB0 hb
        have hK1 := hK1.below hb
        have hK2 := hK2.below hb
        have hF1 : ∀ i, w1.frozen? ⟨w.heap.size + 2, i, none⟩ = false := fun i => (hb.frozen (p := ⟨w.heap.size + 2, i, none⟩) hK3.1).trans (hF0 i)
        have hK3 := hK3.below hb
        have ck := hK1.2; have k0 := ck 0; have k1 := ck 1; simp at k0 k1; clear ck
        have ck := hK2.2; have k2 := ck 0; have k3 := ck 1; simp at k2 k3; clear ck
        have ck := hK3.2; have k4 := ck 0; have k5 := ck 1; have k6 := ck 2; simp at k4 k5 k6; clear ck
        have hz1 : w.heap.size + 2 < w1.heap.size := hK3.1
        clear hb hF0
        go_wp2_with fail
        refine (HTK.out _ (HSL.out _ hB1) (HTB.out _ hB1)).mono ?_
        rintro e w2 ⟨⟨l2, A2, c2, rfl, hs2, ht2, hc2, hat2, hfa2⟩, hb⟩
        have hB2 := since_step hB1 hb
        go_wp2_with fail
        go_ret2
        rw [HR.out]
        exact ⟨HRes.nil _ _, hB2⟩
    · subst hn
      obtain ⟨hi1, h61, hl1⟩ := chg_take_is hR
      have h61 := h61 h6
      have hcl1 : ∀ g ∈ RL, g.L.length ≤ 900000 := fun g hg => Nat.le_trans (is_len hi1 g hg) (by omega)
      have HR : Hid (passHR cs fa fc ta tc ⟨xa, xt, xq⟩ tag = chgHR (fun m => putLR m ⟨xa, tag, xq⟩) RL ta tc) := Lib.hid (passHR_ok (x := ⟨xa, xt, xq⟩) (tag := tag) hi hq hR)
      have HPU := Lib.hid (fun A2 c2 l2 V hl2 h1 h2 => hput_any A2 c2 l2 RL ta tc xa tag xq V hl2 hcl1 hx h61 h1 h2)
      have HRL : Hid (RL.length ≤ 900000) := Lib.hid (by omega)
      generalize chgHR (fun m => putLR m ⟨xa, tag, xq⟩) RL ta tc = RR at *
      obtain ⟨pn, PL⟩ := RR
      unfold HRes at HPU
      simp only at HPU
      clear hi hR hlc hi1 h61 hl1 hcl1
      rcases Classical.em (fa = ta) with h1 | h1
      · subst h1
        have h2b : (fc == tc) = false := by simpa using hq
        clear hq hqb
        go_enter Try.func75, Try.ntmps75
        go_wp2_with fail
        refine HIS.out.mono ?_
        rintro e w1 ⟨rfl, hb⟩
        have hB1 := since_step hB0 hb
        have hK1 := hK1.below hb
        have hK2 := hK2.below hb
        have hF1 : ∀ i, w1.frozen? ⟨w.heap.size + 2, i, none⟩ = false := fun i => (hb.frozen (p := ⟨w.heap.size + 2, i, none⟩) hK3.1).trans (hF0 i)
        have hK3 := hK3.below hb
        have ck := hK1.2; have k0 := ck 0; have k1 := ck 1; simp at k0 k1; clear ck
        have ck := hK2.2; have k2 := ck 0; have k3 := ck 1; simp at k2 k3; clear ck
        have ck := hK3.2; have k4 := ck 0; have k5 := ck 1; have k6 := ck 2; simp at k4 k5 k6; clear ck
        have hz1 : w.heap.size + 2 < w1.heap.size := hK3.1
        clear hb hF0
        go_wp2_with fail
        refine (HTK.out _ (HSL.out _ hB1) (HTB.out _ hB1)).mono ?_
        rintro e w2 ⟨⟨l2, A2, c2, rfl, hs2, ht2, hc2, hat2, hfa2⟩, hb⟩
        have hB2 := since_step hB1 hb
        have hK2 := hK2.below hb
        have hF2 : ∀ i, w2.frozen? ⟨w.heap.size + 2, i, none⟩ = false := fun i => (hb.frozen (p := ⟨w.heap.size + 2, i, none⟩) hz1).trans (hF1 i)
        have hK3 := hK3.below hb
        have hl2 : l2.length ≤ 900000 := by have := ht2.1; have := HRL.out; omega
        have hsZ : Sl (w2.setCell ⟨w.heap.size + 2, 1, none⟩ (.int .i64 tag)) A2 (rc Hd.cells l2) := hat2.sl hs2 (by show w.heap.size + 2 < _; omega) _
        have htZ : HdTab (w2.setCell ⟨w.heap.size + 2, 1, none⟩ (.int .i64 tag)) l2 RL := HdTab.set1 HT0.out ht2 hfa2 (by show w.heap.size ≤ w.heap.size + 2; omega) (by show w.heap.size + 2 < _; omega) _
        have hBZ : Below w.heap.size w (w2.setCell ⟨w.heap.size + 2, 1, none⟩ (.int .i64 tag)) := Below.setCell hB2 (by show w.heap.size ≤ w.heap.size + 2; omega) _
        have hKZ := hK2.farH (p := ⟨w.heap.size + 2, 1, none⟩) (by show w.heap.size + 2 ≠ w.heap.size + 1; omega) (.int .i64 tag)
        have ck := hK3.2; have k4 := ck 0; have k5 := ck 1; have k6 := ck 2; simp at k4 k5 k6; clear ck
        have z4 : (w2.setCell ⟨w.heap.size + 2, 1, none⟩ (.int .i64 tag)).cell? ⟨w.heap.size + 2, 0, none⟩ = some (.int .i64 xa) := by rw [cell_set, if_neg (by simp)]; exact k4
        have z5 : (w2.setCell ⟨w.heap.size + 2, 1, none⟩ (.int .i64 tag)).cell? ⟨w.heap.size + 2, 1, none⟩ = some (.int .i64 tag) := by rw [cell_set, if_pos rfl, k5]; rfl
        have z6 : (w2.setCell ⟨w.heap.size + 2, 1, none⟩ (.int .i64 tag)).cell? ⟨w.heap.size + 2, 2, none⟩ = some (.int .i64 xq) := by rw [cell_set, if_neg (by simp)]; exact k6
        have HQQ := Lib.hid (And.intro hc2 (And.intro hsZ htZ))
        have hz2 : w.heap.size + 2 < w2.heap.size := hK3.1
        clear hs2 ht2 hat2 hfa2 hK2 hK3 hb hB1 hK1 k0 k1 k2 k3 hsZ htZ hc2 k4 k6
        have hf2 := hF2 1
        go_upto_region 9 with fail
        generalize hWW : w2.setCell ⟨w.heap.size + 2, 1, none⟩ (.int .i64 tag) = W3 at *
        clear hWW k5 hf2 hF1 hF2
        have ck := hKZ.2; have k2 := ck 0; have k3 := ck 1; simp at k2 k3; clear ck
        have HP3 := Lib.hid (HPU.out A2 c2 l2 _ hl2 HQQ.out.2.1 HQQ.out.2.2)
        clear HQQ HPU
        go_wp2_with fail
        refine HP3.out.mono ?_
        rintro e w4 ⟨⟨l3, A3, c3, rfl, hs3, ht3, hc3⟩, hb⟩
        have hB4 := since_step hBZ hb
        go_wp2_with fail
        go_ret2
        rw [HR.out]
        exact ⟨⟨l3, A3, c3, rfl, hs3, ht3, hc3⟩, hB4⟩
      · have h1b : (fa == ta) = false := by simpa using h1
        clear hq hqb h1
        go_enter Try.func75, Try.ntmps75
        go_wp2_with fail
        refine HIS.out.mono ?_
        rintro e w1 ⟨rfl, hb⟩
        have hB1 := since_step hB0 hb
        have hK1 := hK1.below hb
        have hK2 := hK2.below hb
        have hF1 : ∀ i, w1.frozen? ⟨w.heap.size + 2, i, none⟩ = false := fun i => (hb.frozen (p := ⟨w.heap.size + 2, i, none⟩) hK3.1).trans (hF0 i)
        have hK3 := hK3.below hb
        have ck := hK1.2; have k0 := ck 0; have k1 := ck 1; simp at k0 k1; clear ck
        have ck := hK2.2; have k2 := ck 0; have k3 := ck 1; simp at k2 k3; clear ck
        have ck := hK3.2; have k4 := ck 0; have k5 := ck 1; have k6 := ck 2; simp at k4 k5 k6; clear ck
        have hz1 : w.heap.size + 2 < w1.heap.size := hK3.1
        clear hb hF0
        go_wp2_with fail
        refine (HTK.out _ (HSL.out _ hB1) (HTB.out _ hB1)).mono ?_
        rintro e w2 ⟨⟨l2, A2, c2, rfl, hs2, ht2, hc2, hat2, hfa2⟩, hb⟩
        have hB2 := since_step hB1 hb
        have hK2 := hK2.below hb
        have hF2 : ∀ i, w2.frozen? ⟨w.heap.size + 2, i, none⟩ = false := fun i => (hb.frozen (p := ⟨w.heap.size + 2, i, none⟩) hz1).trans (hF1 i)
        have hK3 := hK3.below hb
        have hl2 : l2.length ≤ 900000 := by have := ht2.1; have := HRL.out; omega
        have hsZ : Sl (w2.setCell ⟨w.heap.size + 2, 1, none⟩ (.int .i64 tag)) A2 (rc Hd.cells l2) := hat2.sl hs2 (by show w.heap.size + 2 < _; omega) _
        have htZ : HdTab (w2.setCell ⟨w.heap.size + 2, 1, none⟩ (.int .i64 tag)) l2 RL := HdTab.set1 HT0.out ht2 hfa2 (by show w.heap.size ≤ w.heap.size + 2; omega) (by show w.heap.size + 2 < _; omega) _
        have hBZ : Below w.heap.size w (w2.setCell ⟨w.heap.size + 2, 1, none⟩ (.int .i64 tag)) := Below.setCell hB2 (by show w.heap.size ≤ w.heap.size + 2; omega) _
        have hKZ := hK2.farH (p := ⟨w.heap.size + 2, 1, none⟩) (by show w.heap.size + 2 ≠ w.heap.size + 1; omega) (.int .i64 tag)
        have ck := hK3.2; have k4 := ck 0; have k5 := ck 1; have k6 := ck 2; simp at k4 k5 k6; clear ck
        have z4 : (w2.setCell ⟨w.heap.size + 2, 1, none⟩ (.int .i64 tag)).cell? ⟨w.heap.size + 2, 0, none⟩ = some (.int .i64 xa) := by rw [cell_set, if_neg (by simp)]; exact k4
        have z5 : (w2.setCell ⟨w.heap.size + 2, 1, none⟩ (.int .i64 tag)).cell? ⟨w.heap.size + 2, 1, none⟩ = some (.int .i64 tag) := by rw [cell_set, if_pos rfl, k5]; rfl
        have z6 : (w2.setCell ⟨w.heap.size + 2, 1, none⟩ (.int .i64 tag)).cell? ⟨w.heap.size + 2, 2, none⟩ = some (.int .i64 xq) := by rw [cell_set, if_neg (by simp)]; exact k6
        have HQQ := Lib.hid (And.intro hc2 (And.intro hsZ htZ))
        have hz2 : w.heap.size + 2 < w2.heap.size := hK3.1
        clear hs2 ht2 hat2 hfa2 hK2 hK3 hb hB1 hK1 k0 k1 k2 k3 hsZ htZ hc2 k4 k6
        have hf2 := hF2 1
        go_upto_region 9 with fail
        generalize hWW : w2.setCell ⟨w.heap.size + 2, 1, none⟩ (.int .i64 tag) = W3 at *
        clear hWW k5 hf2 hF1 hF2
        have ck := hKZ.2; have k2 := ck 0; have k3 := ck 1; simp at k2 k3; clear ck
        have HP3 := Lib.hid (HPU.out A2 c2 l2 _ hl2 HQQ.out.2.1 HQQ.out.2.2)
        clear HQQ HPU
        go_wp2_with fail
        refine HP3.out.mono ?_
        rintro e w4 ⟨⟨l3, A3, c3, rfl, hs3, ht3, hc3⟩, hb⟩
        have hB4 := since_step hBZ hb
        go_wp2_with fail
        go_ret2
        rw [HR.out]
        exact ⟨⟨l3, A3, c3, rfl, hs3, ht3, hc3⟩, hB4⟩
set_option maxHeartbeats 8000000 in
set_option maxRecDepth 100000 in
theorem rhpass_any (A : Option Addr) (cap : Nat) (l : List Hd) (cs : List Hc) (fa fc ta tc xa xt xq tag : Int) (w : World) (hl : l.length ≤ 800000) (hcl : ∀ g ∈ cs, g.L.length ≤ 900000) (hx : In64 xq) (h6 : ∀ g ∈ cs, ∀ y ∈ g.L, In64 y.qty) (hcap : CapH A l.length cap) (hs : Sl w A (rc Hd.cells l)) (ht : HdTab w l cs) :
    Calls Try.prog 76 #[.slice A l.length cap, .agg #[.int .i64 fa, .int .i64 fc], .agg #[.int .i64 ta, .int .i64 tc], .agg #[.int .i64 xa, .int .i64 xt, .int .i64 xq], .int .i64 tag] w fun e w' => HRes w' e (passHR cs fa fc ta tc ⟨xa, xt, xq⟩ tag) ∧ Below w.heap.size w w' := by
  have hB0 := since_alloc (since_alloc (since_alloc (Below.refl _ w) (.cells #[.int .i64 fa, .int .i64 fc] 24)) (.cells #[.int .i64 ta, .int .i64 tc] 24)) (.cells #[.int .i64 xa, .int .i64 xt, .int .i64 xq] 93)
  have hK1 := ((Bk.new w #[.int .i64 fa, .int .i64 fc] 24).alloc (.cells #[.int .i64 ta, .int .i64 tc] 24)).alloc (.cells #[.int .i64 xa, .int .i64 xt, .int .i64 xq] 93)
  have hK2 : Bk (((w.alloc (.cells #[.int .i64 fa, .int .i64 fc] 24)).alloc (.cells #[.int .i64 ta, .int .i64 tc] 24)).alloc (.cells #[.int .i64 xa, .int .i64 xt, .int .i64 xq] 93)) (w.heap.size + 1) #[.int .i64 ta, .int .i64 tc] := by
    have h := (Bk.new (w.alloc (.cells #[.int .i64 fa, .int .i64 fc] 24)) #[.int .i64 ta, .int .i64 tc] 24).alloc (.cells #[.int .i64 xa, .int .i64 xt, .int .i64 xq] 93)
    rw [World.size_alloc] at h; exact h
  have hK3 : Bk (((w.alloc (.cells #[.int .i64 fa, .int .i64 fc] 24)).alloc (.cells #[.int .i64 ta, .int .i64 tc] 24)).alloc (.cells #[.int .i64 xa, .int .i64 xt, .int .i64 xq] 93)) (w.heap.size + 2) #[.int .i64 xa, .int .i64 xt, .int .i64 xq] := by
    have h := Bk.new ((w.alloc (.cells #[.int .i64 fa, .int .i64 fc] 24)).alloc (.cells #[.int .i64 ta, .int .i64 tc] 24)) #[.int .i64 xa, .int .i64 xt, .int .i64 xq] 93
    rw [World.size_alloc, World.size_alloc] at h; exact h
  have hF0 : ∀ i, (((w.alloc (.cells #[.int .i64 fa, .int .i64 fc] 24)).alloc (.cells #[.int .i64 ta, .int .i64 tc] 24)).alloc (.cells #[.int .i64 xa, .int .i64 xt, .int .i64 xq] 93)).frozen? ⟨w.heap.size + 2, i, none⟩ = false := fun i => by
    have h := fz_new ((w.alloc (.cells #[.int .i64 fa, .int .i64 fc] 24)).alloc (.cells #[.int .i64 ta, .int .i64 tc] 24)) #[.int .i64 xa, .int .i64 xt, .int .i64 xq] 93 i
    rw [World.size_alloc, World.size_alloc] at h; exact h
  have HIS := Lib.hid (rhis_any A cap l cs _ (by omega) hcl (((hs.alloc (.cells #[.int .i64 fa, .int .i64 fc] 24)).alloc (.cells #[.int .i64 ta, .int .i64 tc] 24)).alloc (.cells #[.int .i64 xa, .int .i64 xt, .int .i64 xq] 93)) (ht.below hB0))
  have HSL : Hid (∀ V, Below w.heap.size w V → Sl V A (rc Hd.cells l)) := Lib.hid fun V hV => hs.below hV
  have HTB : Hid (∀ V, Below w.heap.size w V → HdTab V l cs) := Lib.hid fun V hV => ht.below hV
  have HT0 := Lib.hid ht
  have hll : l.length ≤ 900000 := by omega
  have HTK := Lib.hid (fun V h1 h2 => rhtake_anyN A cap l cs fa fc xa xt xq V hll hcl hx h6 hcap h1 h2)
  obtain ⟨rn, RL, hR⟩ : ∃ rn RL, chgHR (fun m => takeLR m ⟨xa, xt, xq⟩) cs fa fc = (rn, RL) := ⟨_, _, rfl⟩
  rw [hR] at HTK
  unfold HResN at HTK
  simp only at HTK
  have hlc := ht.1
  clear hs ht
  cases hi : isH cs with
  | false =>
      have HR := Lib.hid (passHR_form (fa := fa) (fc := fc) (ta := ta) (tc := tc) (x := ⟨xa, xt, xq⟩) (tag := tag) hi)
      rw [hi] at HIS
      clear hi hR hlc
      go_enter Try.func76, Try.ntmps76
      go_wp2_with fail
      refine HIS.out.mono ?_
      rintro e w1 ⟨rfl, hb⟩
      have hB1 := since_step hB0 hb
      have hK1 := hK1.below hb
      have hK2 := hK2.below hb
      have hF1 : ∀ i, w1.frozen? ⟨w.heap.size + 2, i, none⟩ = false := fun i => (hb.frozen (p := ⟨w.heap.size + 2, i, none⟩) hK3.1).trans (hF0 i)
      have hK3 := hK3.below hb
      have ck := hK1.2; have k0 := ck 0; have k1 := ck 1; simp at k0 k1; clear ck
      have ck := hK2.2; have k2 := ck 0; have k3 := ck 1; simp at k2 k3; clear ck
      have ck := hK3.2; have k4 := ck 0; have k5 := ck 1; have k6 := ck 2; simp at k4 k5 k6; clear ck
      have hz1 : w.heap.size + 2 < w1.heap.size := hK3.1
      clear hb hF0
      go_wp2_with fail
      go_ret2
      rw [HR.out]
      exact ⟨HRes.nil _ _, hB1⟩
  | true =>
    rw [hi] at HIS
    by_cases hq : fa = ta ∧ fc = tc
    · obtain ⟨rfl, rfl⟩ := hq
      have HR := Lib.hid (passHR_same (fa := fa) (fc := fc) (x := ⟨xa, xt, xq⟩) (tag := tag) hi)
      clear hi hR hlc
      go_enter Try.func76, Try.ntmps76
      go_wp2_with fail
      refine HIS.out.mono ?_
      rintro e w1 ⟨rfl, hb⟩
      have hB1 := since_step hB0 hb
      have hK1 := hK1.below hb
      have hK2 := hK2.below hb
      have hF1 : ∀ i, w1.frozen? ⟨w.heap.size + 2, i, none⟩ = false := fun i => (hb.frozen (p := ⟨w.heap.size + 2, i, none⟩) hK3.1).trans (hF0 i)
      have hK3 := hK3.below hb
      have ck := hK1.2; have k0 := ck 0; have k1 := ck 1; simp at k0 k1; clear ck
      have ck := hK2.2; have k2 := ck 0; have k3 := ck 1; simp at k2 k3; clear ck
      have ck := hK3.2; have k4 := ck 0; have k5 := ck 1; have k6 := ck 2; simp at k4 k5 k6; clear ck
      have hz1 : w.heap.size + 2 < w1.heap.size := hK3.1
      clear hb hF0
      go_wp2_with fail
      go_ret2
      rw [HR.out]
      exact ⟨HRes.nil _ _, hB1⟩
    have hqb : (fa == ta && fc == tc) = false := by
      rw [← Bool.not_eq_true]; simpa using hq
    by_cases hn : rn = 0
    rotate_left
    · have HR := Lib.hid (passHR_err (x := ⟨xa, xt, xq⟩) (tag := tag) hi hq hR hn)
      have hnb : (rn != 0) = true := by simpa using hn
      have hnb2 : (rn == 0) = false := by simpa using hn
      clear hi hR hn hlc
      rcases Classical.em (fa = ta) with h1 | h1
      · subst h1
        have h2b : (fc == tc) = false := by simpa using hq
        clear hq hqb
        go_enter Try.func76, Try.ntmps76
        go_wp2_with fail
        refine HIS.out.mono ?_
        rintro e w1 ⟨rfl, hb⟩
        have hB1 := since_step hB0 hb
        have hK1 := hK1.below hb
        have hK2 := hK2.below hb
        have hF1 : ∀ i, w1.frozen? ⟨w.heap.size + 2, i, none⟩ = false := fun i => (hb.frozen (p := ⟨w.heap.size + 2, i, none⟩) hK3.1).trans (hF0 i)
        have hK3 := hK3.below hb
        have ck := hK1.2; have k0 := ck 0; have k1 := ck 1; simp at k0 k1; clear ck
        have ck := hK2.2; have k2 := ck 0; have k3 := ck 1; simp at k2 k3; clear ck
        have ck := hK3.2; have k4 := ck 0; have k5 := ck 1; have k6 := ck 2; simp at k4 k5 k6; clear ck
        have hz1 : w.heap.size + 2 < w1.heap.size := hK3.1
        clear hb hF0
        go_wp2_with fail
        refine (HTK.out _ (HSL.out _ hB1) (HTB.out _ hB1)).mono ?_
        rintro e w2 ⟨⟨l2, A2, c2, rfl, hs2, ht2, hc2, hat2, hfa2⟩, hb⟩
        have hB2 := since_step hB1 hb
        go_wp2_with fail
        go_ret2
        rw [HR.out]
        exact ⟨HRes.nil _ _, hB2⟩
      · have h1b : (fa == ta) = false := by simpa using h1
        clear hq hqb h1
        go_enter Try.func76, Try.ntmps76
        go_wp2_with fail
        refine HIS.out.mono ?_
        rintro e w1 ⟨rfl, hb⟩
        have hB1 := since_step hB0 hb
        have hK1 := hK1.below hb
        have hK2 := hK2.below hb
        have hF1 : ∀ i, w1.frozen? ⟨w.heap.size + 2, i, none⟩ = false := fun i => (hb.frozen (p := ⟨w.heap.size + 2, i, none⟩) hK3.1).trans (hF0 i)
        have hK3 := hK3.below hb
        have ck := hK1.2; have k0 := ck 0; have k1 := ck 1; simp at k0 k1; clear ck
        have ck := hK2.2; have k2 := ck 0; have k3 := ck 1; simp at k2 k3; clear ck
        have ck := hK3.2; have k4 := ck 0; have k5 := ck 1; have k6 := ck 2; simp at k4 k5 k6; clear ck
        have hz1 : w.heap.size + 2 < w1.heap.size := hK3.1
        clear hb hF0
        go_wp2_with fail
        refine (HTK.out _ (HSL.out _ hB1) (HTB.out _ hB1)).mono ?_
        rintro e w2 ⟨⟨l2, A2, c2, rfl, hs2, ht2, hc2, hat2, hfa2⟩, hb⟩
        have hB2 := since_step hB1 hb
        go_wp2_with fail
        go_ret2
        rw [HR.out]
        exact ⟨HRes.nil _ _, hB2⟩
    · subst hn
      obtain ⟨hi1, h61, hl1⟩ := chg_take_is hR
      have h61 := h61 h6
      have hcl1 : ∀ g ∈ RL, g.L.length ≤ 900000 := fun g hg => Nat.le_trans (is_len hi1 g hg) (by omega)
      have HR : Hid (passHR cs fa fc ta tc ⟨xa, xt, xq⟩ tag = chgHR (fun m => putLR m ⟨xa, tag, xq⟩) RL ta tc) := Lib.hid (passHR_ok (x := ⟨xa, xt, xq⟩) (tag := tag) hi hq hR)
      have HPU := Lib.hid (fun A2 c2 l2 V hl2 hcp h1 h2 => rhput_any A2 c2 l2 RL ta tc xa tag xq V hl2 hcl1 hx h61 hcp h1 h2)
      have HRL : Hid (RL.length ≤ 900000) := Lib.hid (by omega)
      generalize chgHR (fun m => putLR m ⟨xa, tag, xq⟩) RL ta tc = RR at *
      obtain ⟨pn, PL⟩ := RR
      unfold HRes at HPU
      simp only at HPU
      clear hi hR hlc hi1 h61 hl1 hcl1
      rcases Classical.em (fa = ta) with h1 | h1
      · subst h1
        have h2b : (fc == tc) = false := by simpa using hq
        clear hq hqb
        go_enter Try.func76, Try.ntmps76
        go_wp2_with fail
        refine HIS.out.mono ?_
        rintro e w1 ⟨rfl, hb⟩
        have hB1 := since_step hB0 hb
        have hK1 := hK1.below hb
        have hK2 := hK2.below hb
        have hF1 : ∀ i, w1.frozen? ⟨w.heap.size + 2, i, none⟩ = false := fun i => (hb.frozen (p := ⟨w.heap.size + 2, i, none⟩) hK3.1).trans (hF0 i)
        have hK3 := hK3.below hb
        have ck := hK1.2; have k0 := ck 0; have k1 := ck 1; simp at k0 k1; clear ck
        have ck := hK2.2; have k2 := ck 0; have k3 := ck 1; simp at k2 k3; clear ck
        have ck := hK3.2; have k4 := ck 0; have k5 := ck 1; have k6 := ck 2; simp at k4 k5 k6; clear ck
        have hz1 : w.heap.size + 2 < w1.heap.size := hK3.1
        clear hb hF0
        go_wp2_with fail
        refine (HTK.out _ (HSL.out _ hB1) (HTB.out _ hB1)).mono ?_
        rintro e w2 ⟨⟨l2, A2, c2, rfl, hs2, ht2, hc2, hat2, hfa2⟩, hb⟩
        have hB2 := since_step hB1 hb
        have hK2 := hK2.below hb
        have hF2 : ∀ i, w2.frozen? ⟨w.heap.size + 2, i, none⟩ = false := fun i => (hb.frozen (p := ⟨w.heap.size + 2, i, none⟩) hz1).trans (hF1 i)
        have hK3 := hK3.below hb
        have hl2 : l2.length ≤ 900000 := by have := ht2.1; have := HRL.out; omega
        have hsZ : Sl (w2.setCell ⟨w.heap.size + 2, 1, none⟩ (.int .i64 tag)) A2 (rc Hd.cells l2) := hat2.sl hs2 (by show w.heap.size + 2 < _; omega) _
        have htZ : HdTab (w2.setCell ⟨w.heap.size + 2, 1, none⟩ (.int .i64 tag)) l2 RL := HdTab.set1 HT0.out ht2 hfa2 (by show w.heap.size ≤ w.heap.size + 2; omega) (by show w.heap.size + 2 < _; omega) _
        have hBZ : Below w.heap.size w (w2.setCell ⟨w.heap.size + 2, 1, none⟩ (.int .i64 tag)) := Below.setCell hB2 (by show w.heap.size ≤ w.heap.size + 2; omega) _
        have hKZ := hK2.farH (p := ⟨w.heap.size + 2, 1, none⟩) (by show w.heap.size + 2 ≠ w.heap.size + 1; omega) (.int .i64 tag)
        have ck := hK3.2; have k4 := ck 0; have k5 := ck 1; have k6 := ck 2; simp at k4 k5 k6; clear ck
        have z4 : (w2.setCell ⟨w.heap.size + 2, 1, none⟩ (.int .i64 tag)).cell? ⟨w.heap.size + 2, 0, none⟩ = some (.int .i64 xa) := by rw [cell_set, if_neg (by simp)]; exact k4
        have z5 : (w2.setCell ⟨w.heap.size + 2, 1, none⟩ (.int .i64 tag)).cell? ⟨w.heap.size + 2, 1, none⟩ = some (.int .i64 tag) := by rw [cell_set, if_pos rfl, k5]; rfl
        have z6 : (w2.setCell ⟨w.heap.size + 2, 1, none⟩ (.int .i64 tag)).cell? ⟨w.heap.size + 2, 2, none⟩ = some (.int .i64 xq) := by rw [cell_set, if_neg (by simp)]; exact k6
        have HQQ := Lib.hid (And.intro hc2 (And.intro hsZ htZ))
        have hz2 : w.heap.size + 2 < w2.heap.size := hK3.1
        clear hs2 ht2 hat2 hfa2 hK2 hK3 hb hB1 hK1 k0 k1 k2 k3 hsZ htZ hc2 k4 k6
        have hf2 := hF2 1
        go_upto_region 9 with fail
        generalize hWW : w2.setCell ⟨w.heap.size + 2, 1, none⟩ (.int .i64 tag) = W3 at *
        clear hWW k5 hf2 hF1 hF2
        have ck := hKZ.2; have k2 := ck 0; have k3 := ck 1; simp at k2 k3; clear ck
        have HP3 := Lib.hid (HPU.out A2 c2 l2 _ hl2 HQQ.out.1 HQQ.out.2.1 HQQ.out.2.2)
        clear HQQ HPU
        go_wp2_with fail
        refine HP3.out.mono ?_
        rintro e w4 ⟨⟨l3, A3, c3, rfl, hs3, ht3, hc3⟩, hb⟩
        have hB4 := since_step hBZ hb
        go_wp2_with fail
        go_ret2
        rw [HR.out]
        exact ⟨⟨l3, A3, c3, rfl, hs3, ht3, hc3⟩, hB4⟩
      · have h1b : (fa == ta) = false := by simpa using h1
        clear hq hqb h1
        go_enter Try.func76, Try.ntmps76
        go_wp2_with fail
        refine HIS.out.mono ?_
        rintro e w1 ⟨rfl, hb⟩
        have hB1 := since_step hB0 hb
        have hK1 := hK1.below hb
        have hK2 := hK2.below hb
        have hF1 : ∀ i, w1.frozen? ⟨w.heap.size + 2, i, none⟩ = false := fun i => (hb.frozen (p := ⟨w.heap.size + 2, i, none⟩) hK3.1).trans (hF0 i)
        have hK3 := hK3.below hb
        have ck := hK1.2; have k0 := ck 0; have k1 := ck 1; simp at k0 k1; clear ck
        have ck := hK2.2; have k2 := ck 0; have k3 := ck 1; simp at k2 k3; clear ck
        have ck := hK3.2; have k4 := ck 0; have k5 := ck 1; have k6 := ck 2; simp at k4 k5 k6; clear ck
        have hz1 : w.heap.size + 2 < w1.heap.size := hK3.1
        clear hb hF0
        go_wp2_with fail
        refine (HTK.out _ (HSL.out _ hB1) (HTB.out _ hB1)).mono ?_
        rintro e w2 ⟨⟨l2, A2, c2, rfl, hs2, ht2, hc2, hat2, hfa2⟩, hb⟩
        have hB2 := since_step hB1 hb
        have hK2 := hK2.below hb
        have hF2 : ∀ i, w2.frozen? ⟨w.heap.size + 2, i, none⟩ = false := fun i => (hb.frozen (p := ⟨w.heap.size + 2, i, none⟩) hz1).trans (hF1 i)
        have hK3 := hK3.below hb
        have hl2 : l2.length ≤ 900000 := by have := ht2.1; have := HRL.out; omega
        have hsZ : Sl (w2.setCell ⟨w.heap.size + 2, 1, none⟩ (.int .i64 tag)) A2 (rc Hd.cells l2) := hat2.sl hs2 (by show w.heap.size + 2 < _; omega) _
        have htZ : HdTab (w2.setCell ⟨w.heap.size + 2, 1, none⟩ (.int .i64 tag)) l2 RL := HdTab.set1 HT0.out ht2 hfa2 (by show w.heap.size ≤ w.heap.size + 2; omega) (by show w.heap.size + 2 < _; omega) _
        have hBZ : Below w.heap.size w (w2.setCell ⟨w.heap.size + 2, 1, none⟩ (.int .i64 tag)) := Below.setCell hB2 (by show w.heap.size ≤ w.heap.size + 2; omega) _
        have hKZ := hK2.farH (p := ⟨w.heap.size + 2, 1, none⟩) (by show w.heap.size + 2 ≠ w.heap.size + 1; omega) (.int .i64 tag)
        have ck := hK3.2; have k4 := ck 0; have k5 := ck 1; have k6 := ck 2; simp at k4 k5 k6; clear ck
        have z4 : (w2.setCell ⟨w.heap.size + 2, 1, none⟩ (.int .i64 tag)).cell? ⟨w.heap.size + 2, 0, none⟩ = some (.int .i64 xa) := by rw [cell_set, if_neg (by simp)]; exact k4
        have z5 : (w2.setCell ⟨w.heap.size + 2, 1, none⟩ (.int .i64 tag)).cell? ⟨w.heap.size + 2, 1, none⟩ = some (.int .i64 tag) := by rw [cell_set, if_pos rfl, k5]; rfl
        have z6 : (w2.setCell ⟨w.heap.size + 2, 1, none⟩ (.int .i64 tag)).cell? ⟨w.heap.size + 2, 2, none⟩ = some (.int .i64 xq) := by rw [cell_set, if_neg (by simp)]; exact k6
        have HQQ := Lib.hid (And.intro hc2 (And.intro hsZ htZ))
        have hz2 : w.heap.size + 2 < w2.heap.size := hK3.1
        clear hs2 ht2 hat2 hfa2 hK2 hK3 hb hB1 hK1 k0 k1 k2 k3 hsZ htZ hc2 k4 k6
        have hf2 := hF2 1
        go_upto_region 9 with fail
        generalize hWW : w2.setCell ⟨w.heap.size + 2, 1, none⟩ (.int .i64 tag) = W3 at *
        clear hWW k5 hf2 hF1 hF2
        have ck := hKZ.2; have k2 := ck 0; have k3 := ck 1; simp at k2 k3; clear ck
        have HP3 := Lib.hid (HPU.out A2 c2 l2 _ hl2 HQQ.out.1 HQQ.out.2.1 HQQ.out.2.2)
        clear HQQ HPU
        go_wp2_with fail
        refine HP3.out.mono ?_
        rintro e w4 ⟨⟨l3, A3, c3, rfl, hs3, ht3, hc3⟩, hb⟩
        have hB4 := since_step hBZ hb
        go_wp2_with fail
        go_ret2
        rw [HR.out]
        exact ⟨⟨l3, A3, c3, rfl, hs3, ht3, hc3⟩, hB4⟩
end Go.Proofs.Ytldnponbkhgijaa
end
section
namespace Go.Proofs.Ytldnponbkhgijaa
open Go.ChangeShapes Go.WideShapes Go.ChangeAt Go.RowKit
set_option linter.unusedVariables false
set_option linter.unusedSimpArgs false

theorem moveHR_ok2 {cs : List Hc} {fa fc ta tc : Int} (h : isH cs = true) (h1 : ¬ (fa = ta ∧ fc = tc)) (h2 : lotsH cs ta tc = []) : moveHR cs fa fc ta tc = (0, withH (withH cs fa fc []) ta tc (lotsH cs fa fc)) := by
  unfold moveHR; rw [if_neg (by simp [h]), if_neg h1, if_neg (by simp [h2])]
set_option maxHeartbeats 8000000 in
set_option maxRecDepth 100000 in
theorem rhmove_any (A : Option Addr) (cap : Nat) (l : List Hd) (cs : List Hc) (fa fc ta tc : Int) (w : World) (hl : l.length ≤ 800000) (hcl : ∀ g ∈ cs, g.L.length ≤ 900000) (hcap : CapH A l.length cap) (hs : Sl w A (rc Hd.cells l)) (ht : HdTab w l cs) :
    Calls Try.prog 74 #[.slice A l.length cap, .agg #[.int .i64 fa, .int .i64 fc], .agg #[.int .i64 ta, .int .i64 tc]] w fun e w' => HRes w' e (moveHR cs fa fc ta tc) ∧ Below w.heap.size w w' := by
  have hB0 := since_alloc (since_alloc (Below.refl _ w) (.cells #[.int .i64 fa, .int .i64 fc] 24)) (.cells #[.int .i64 ta, .int .i64 tc] 24)
  have hK1 := (Bk.new w #[.int .i64 fa, .int .i64 fc] 24).alloc (.cells #[.int .i64 ta, .int .i64 tc] 24)
  have hK2 := Bk.new (w.alloc (.cells #[.int .i64 fa, .int .i64 fc] 24)) #[.int .i64 ta, .int .i64 tc] 24
  rw [World.size_alloc] at hK2
  have HIS := Lib.hid (rhis_any A cap l cs _ (by omega) hcl ((hs.alloc (.cells #[.int .i64 fa, .int .i64 fc] 24)).alloc (.cells #[.int .i64 ta, .int .i64 tc] 24)) (ht.below hB0))
  have HSL : Hid (∀ V, Below w.heap.size w V → Sl V A (rc Hd.cells l)) := Lib.hid fun V hV => hs.below hV
  have HTB : Hid (∀ V, Below w.heap.size w V → HdTab V l cs) := Lib.hid fun V hV => ht.below hV
  have HLT := Lib.hid (fun V h1 h2 => rhlots_any A cap l cs ta tc V (by omega) h1 h2)
  have HLO := Lib.hid (fun V h1 h2 => rhlots_any A cap l cs fa fc V (by omega) h1 h2)
  have HLC := Lib.hid ht.1
  have hll : l.length ≤ 900000 := by omega
  clear hs ht
  cases hi : isH cs with
  | false =>
      have HR := Lib.hid (moveHR_form (fa := fa) (fc := fc) (ta := ta) (tc := tc) hi)
      rw [hi] at HIS
      clear hi
      go_enter Try.func74, Try.ntmps74
      go_wp2_with fail
      refine HIS.out.mono ?_
      rintro e w1 ⟨rfl, hb⟩
      have hB1 := since_step hB0 hb
      have hK1 := hK1.below hb
      have hK2 := hK2.below hb
      have ck := hK1.2; have k0 := ck 0; have k1 := ck 1; simp at k0 k1; clear ck
      have ck := hK2.2; have k2 := ck 0; have k3 := ck 1; simp at k2 k3; clear ck
      clear hb
      go_wp2_with fail
      go_ret2
      rw [HR.out]
      exact ⟨HRes.nil _ _, hB1⟩
  | true =>
    rw [hi] at HIS
    by_cases hq : fa = ta ∧ fc = tc
    · obtain ⟨rfl, rfl⟩ := hq
      have HR := Lib.hid (moveHR_same (fa := fa) (fc := fc) hi)
      clear hi
      go_enter Try.func74, Try.ntmps74
      go_wp2_with fail
      refine HIS.out.mono ?_
      rintro e w1 ⟨rfl, hb⟩
      have hB1 := since_step hB0 hb
      have hK1 := hK1.below hb
      have hK2 := hK2.below hb
      have ck := hK1.2; have k0 := ck 0; have k1 := ck 1; simp at k0 k1; clear ck
      have ck := hK2.2; have k2 := ck 0; have k3 := ck 1; simp at k2 k3; clear ck
      clear hb
      go_wp2_with fail
      go_ret2
      rw [HR.out]
      exact ⟨HRes.nil _ _, hB1⟩
    have hqb : (fa == ta && fc == tc) = false := by
      rw [← Bool.not_eq_true]; simpa using hq
    by_cases hz : lotsH cs ta tc = []
    rotate_left
    · have HR := Lib.hid (moveHR_busy hi hq hz)
      have hpos : 0 < (lotsH cs ta tc).length := List.length_pos_iff.2 hz
      have hposi : (0 : Int) < ((lotsH cs ta tc).length : Int) := by omega
      generalize lotsH cs ta tc = L0 at *
      clear hi
      go_enter Try.func74, Try.ntmps74
      go_wp2_with fail
      refine HIS.out.mono ?_
      rintro e w1 ⟨rfl, hb⟩
      have hB1 := since_step hB0 hb
      have hK1 := hK1.below hb
      have hK2 := hK2.below hb
      have ck := hK1.2; have k0 := ck 0; have k1 := ck 1; simp at k0 k1; clear ck
      have ck := hK2.2; have k2 := ck 0; have k3 := ck 1; simp at k2 k3; clear ck
      clear hb
      rcases Classical.em (fa = ta) with h1 | h1
      · subst h1
        have h2b : (fc == tc) = false := by simpa using hq
        clear hq hqb
        go_wp2_with fail
        refine (HLT.out _ (HSL.out _ hB1) (HTB.out _ hB1)).mono ?_
        rintro e w2 ⟨⟨A1, c1, rfl, ho1⟩, hb⟩
        have hB2 := since_step hB1 hb
        go_wp2_with fail
        go_ret2
        rw [HR.out]
        exact ⟨HRes.nil _ _, hB2⟩
      · have h1b : (fa == ta) = false := by simpa using h1
        clear hq hqb h1
        go_wp2_with fail
        refine (HLT.out _ (HSL.out _ hB1) (HTB.out _ hB1)).mono ?_
        rintro e w2 ⟨⟨A1, c1, rfl, ho1⟩, hb⟩
        have hB2 := since_step hB1 hb
        go_wp2_with fail
        go_ret2
        rw [HR.out]
        exact ⟨HRes.nil _ _, hB2⟩
    · have HR := Lib.hid (moveHR_ok2 hi hq hz)
      rw [hz] at HLT
      have hso := isH_sorted hi
      have hwl : (withH cs fa fc []).length ≤ 900000 := by have := with_len (cs := cs) fa fc []; have := HLC.out; omega
      have HSE := Lib.hid (fun V h1 h2 => rhwith_any A cap l cs fa fc none 0 [] V hll hcap h1 h2 hso Sl.nil)
      have HSF := Lib.hid (fun A2 c2 l2 A1 c1 V hl2 hc2 h1 h2 h3 => rhwith_any A2 c2 l2 (withH cs fa fc []) ta tc A1 c1 (lotsH cs fa fc) V hl2 hc2 h1 h2 (with_sorted hso fa fc []) h3)
      have HWL := Lib.hid hwl
      generalize withH (withH cs fa fc []) ta tc (lotsH cs fa fc) = R2 at *
      generalize withH cs fa fc [] = R1 at *
      generalize lotsH cs fa fc = L0 at *
      unfold HRow at HSE HSF
      simp only [List.length_nil] at HSE HSF HLT
      clear hi hz hwl hso
      rcases Classical.em (fa = ta) with h1 | h1
      · subst h1
        have h2b : (fc == tc) = false := by simpa using hq
        clear hq hqb
        go_enter Try.func74, Try.ntmps74
        go_wp2_with fail
        refine HIS.out.mono ?_
        rintro e w1 ⟨rfl, hb⟩
        have hB1 := since_step hB0 hb
        have hK1 := hK1.below hb
        have hK2 := hK2.below hb
        have ck := hK1.2; have k0 := ck 0; have k1 := ck 1; simp at k0 k1; clear ck
        have ck := hK2.2; have k2 := ck 0; have k3 := ck 1; simp at k2 k3; clear ck
        clear hb
        go_wp2_with fail
        refine (HLT.out _ (HSL.out _ hB1) (HTB.out _ hB1)).mono ?_
        rintro e w2 ⟨⟨A0, c0, rfl, ho0⟩, hb⟩
        have hB2 := since_step hB1 hb
        have hK1 := hK1.below hb
        have hK2 := hK2.below hb
        have HK : Hid (∀ V, Below w2.heap.size w2 V → Bk V w.heap.size #[.int .i64 fa, .int .i64 fc] ∧ Bk V (w.heap.size + 1) #[.int .i64 fa, .int .i64 tc]) := Lib.hid fun V hV => ⟨hK1.below hV, hK2.below hV⟩
        clear hb k0 k1 k2 k3 hK1 hK2 ho0
        go_wp2_with fail
        refine wp_region_held_drew (S := (fun V => Below w.heap.size w V ∧ Below w2.heap.size w2 V)) (by kernel_rfl) (by exact ⟨hB2.drew, (Below.refl _ _).drew⟩) (fun hHeld => ?_)
        refine wpAnyH_take (i := 0) (oi := { dst := some 19, op := _, type := _, pos := _, after := _, guard := _ }) (v := ?_) rfl (by kernel_rfl) (by kernel_rfl) (by kernel_rfl) (fun _ _ _ h => h) (Or.inl ⟨by rfl, ?_⟩) hHeld ?_
        rotate_left
        · (intro w hSw; obtain ⟨K1, K2⟩ := HK.out _ (hSw).2; have ck := K1.2; have k0 := ck 0; have k1 := ck 1; simp at k0 k1; clear ck; have cq := K2.2; have k2 := cq 0; have k3 := cq 1; simp at k2 k3; clear cq K1 K2; go_simp <;> with_reducible rfl)
        try simp only [Act.put, List.setIfInBounds_toArray, List.set_cons_zero, List.set_cons_succ]
        refine wpAnyH_take (i := 1) (oi := { dst := some 20, op := _, type := _, pos := _, after := _, guard := _ }) (v := ?_) rfl (by kernel_rfl) (by kernel_rfl) (by kernel_rfl) (fun _ _ _ h => h) (Or.inl ⟨by rfl, ?_⟩) hHeld ?_
        rotate_left
        · (intro w hSw; obtain ⟨K1, K2⟩ := HK.out _ (hSw).2; have ck := K1.2; have k0 := ck 0; have k1 := ck 1; simp at k0 k1; clear ck; have cq := K2.2; have k2 := cq 0; have k3 := cq 1; simp at k2 k3; clear cq K1 K2; go_simp <;> with_reducible rfl)
        try simp only [Act.put, List.setIfInBounds_toArray, List.set_cons_zero, List.set_cons_succ]
        refine wpAnyH_take (i := 3) (oi := { dst := some 22, op := _, type := _, pos := _, after := _, guard := _ }) (v := ?_) rfl (by kernel_rfl) (by kernel_rfl) (by kernel_rfl) (fun _ _ _ h => h) (Or.inl ⟨by rfl, ?_⟩) hHeld ?_
        rotate_left
        · (intro w hSw; obtain ⟨K1, K2⟩ := HK.out _ (hSw).2; have ck := K1.2; have k0 := ck 0; have k1 := ck 1; simp at k0 k1; clear ck; have cq := K2.2; have k2 := cq 0; have k3 := cq 1; simp at k2 k3; clear cq K1 K2; go_simp <;> with_reducible rfl)
        try simp only [Act.put, List.setIfInBounds_toArray, List.set_cons_zero, List.set_cons_succ]
        refine wpAnyH_take (i := 4) (oi := { dst := some 23, op := _, type := _, pos := _, after := _, guard := _ }) (v := ?_) rfl (by kernel_rfl) (by kernel_rfl) (by kernel_rfl) (fun _ _ _ h => h) (Or.inl ⟨by rfl, ?_⟩) hHeld ?_
        rotate_left
        · (intro w hSw; obtain ⟨K1, K2⟩ := HK.out _ (hSw).2; have ck := K1.2; have k0 := ck 0; have k1 := ck 1; simp at k0 k1; clear ck; have cq := K2.2; have k2 := cq 0; have k3 := cq 1; simp at k2 k3; clear cq K1 K2; go_simp <;> with_reducible rfl)
        try simp only [Act.put, List.setIfInBounds_toArray, List.set_cons_zero, List.set_cons_succ]
        refine wpAnyH_take (i := 5) (oi := { dst := some 24, op := _, type := _, pos := _, after := _, guard := _ }) (v := ?_) rfl (by kernel_rfl) (by kernel_rfl) (by kernel_rfl) (fun _ _ _ h => h) (Or.inl ⟨by rfl, ?_⟩) hHeld ?_
        rotate_left
        · (intro w hSw; obtain ⟨K1, K2⟩ := HK.out _ (hSw).2; have ck := K1.2; have k0 := ck 0; have k1 := ck 1; simp at k0 k1; clear ck; have cq := K2.2; have k2 := cq 0; have k3 := cq 1; simp at k2 k3; clear cq K1 K2; go_simp <;> with_reducible rfl)
        try simp only [Act.put, List.setIfInBounds_toArray, List.set_cons_zero, List.set_cons_succ]
        refine wpAnyH_ready (rs := [2]) (by kernel_rfl) (by simp) ?_
        refine AllReadyH.cons (o := { dst := some 21, op := _, type := _, pos := _, after := _, guard := _ }) rfl (fun K hK => ?_) AllReadyH.nil
        go_simp
        refine (HSE.out _ (HSL.out _ hHeld.1) (HTB.out _ hHeld.1)).mono ?_
        rintro e u1 ⟨⟨l2, A2, c2, rfl, hs2, ht2, hc2⟩, hk1⟩
        have hKeep := And.intro (since_step hHeld.1 hk1) (since_step hHeld.2 hk1)
        have HQQ := Lib.hid (And.intro hs2 (And.intro ht2 hc2))
        clear hs2 ht2 hc2
        go_wp2_with fail
        refine hK.out _ _ (by (try dsimp only); exact hKeep) (fun hHeld => ?_)
        clear hK K hKeep
        try simp only [Act.put, List.setIfInBounds_toArray, List.set_cons_zero, List.set_cons_succ]
        refine wpAnyH_ready (rs := [6]) (by kernel_rfl) (by simp) ?_
        refine AllReadyH.cons (o := { dst := some 25, op := _, type := _, pos := _, after := _, guard := _ }) rfl (fun K hK => ?_) AllReadyH.nil
        go_simp
        refine (HLO.out _ (HSL.out _ hHeld.1) (HTB.out _ hHeld.1)).mono ?_
        rintro e u2 ⟨⟨A1, c1, rfl, hs1⟩, hk2⟩
        have hKeep := And.intro (since_step hHeld.1 hk2) (since_step hHeld.2 hk2)
        have HQQ := Lib.hid (And.intro (HQQ.out.1.below hk2) (And.intro (HQQ.out.2.1.below hk2) HQQ.out.2.2))
        go_wp2_with fail
        refine hK.out _ _ (by (try dsimp only); exact hKeep) (fun hHeld => ?_)
        clear hK K hKeep
        try simp only [Act.put, List.setIfInBounds_toArray, List.set_cons_zero, List.set_cons_succ]
        refine wpAnyH_ready (rs := [7]) (by kernel_rfl) (by simp) ?_
        refine AllReadyH.cons (o := { dst := some 26, op := _, type := _, pos := _, after := _, guard := _ }) rfl (fun K hK => ?_) AllReadyH.nil
        go_simp
        refine (HSF.out A2 c2 l2 A1 c1 _ (by have := HQQ.out.2.1.1; have := HWL.out; omega) HQQ.out.2.2 HQQ.out.1 HQQ.out.2.1 hs1).mono ?_
        rintro e u3 ⟨⟨l3, A3, c3, rfl, hs3, ht3, hc3⟩, hk3⟩
        have hKeep := And.intro (since_step hHeld.1 hk3) (since_step hHeld.2 hk3)
        have HQ3 := Lib.hid (And.intro hs3 (And.intro ht3 hc3))
        clear hs3 ht3 hc3
        go_wp2_with fail
        refine hK.out _ _ (by (try dsimp only); exact hKeep) (fun hHeld => ?_)
        clear hK K hKeep
        try simp only [Act.put, List.setIfInBounds_toArray, List.set_cons_zero, List.set_cons_succ]
        refine wpAnyH_take (i := 8) (oi := { dst := some 6, op := _, type := _, pos := _, after := _, guard := _ }) (v := ?_) rfl (by kernel_rfl) (by kernel_rfl) (by kernel_rfl) (fun _ _ _ h => h) (Or.inl ⟨by rfl, ?_⟩) hHeld ?_
        rotate_left
        · (intro w hSw; obtain ⟨K1, K2⟩ := HK.out _ (hSw).2; have ck := K1.2; have k0 := ck 0; have k1 := ck 1; simp at k0 k1; clear ck; have cq := K2.2; have k2 := cq 0; have k3 := cq 1; simp at k2 k3; clear cq K1 K2; go_simp <;> with_reducible rfl)
        try simp only [Act.put, List.setIfInBounds_toArray, List.set_cons_zero, List.set_cons_succ]
        refine wpAnyH_take (i := 9) (oi := { dst := some 7, op := _, type := _, pos := _, after := _, guard := _ }) (v := ?_) rfl (by kernel_rfl) (by kernel_rfl) (by kernel_rfl) (fun _ _ _ h => h) (Or.inl ⟨by rfl, ?_⟩) hHeld ?_
        rotate_left
        · (intro w hSw; obtain ⟨K1, K2⟩ := HK.out _ (hSw).2; have ck := K1.2; have k0 := ck 0; have k1 := ck 1; simp at k0 k1; clear ck; have cq := K2.2; have k2 := cq 0; have k3 := cq 1; simp at k2 k3; clear cq K1 K2; go_simp <;> with_reducible rfl)
        try simp only [Act.put, List.setIfInBounds_toArray, List.set_cons_zero, List.set_cons_succ]
        refine wpAnyH_done (by kernel_rfl) ?_ _
        have hBz := hHeld.1
        go_wp2_with fail
        go_ret2
        rw [HR.out]
        exact ⟨⟨l3, A3, c3, rfl, HQ3.out.1, HQ3.out.2.1, HQ3.out.2.2⟩, hBz⟩
      · have h1b : (fa == ta) = false := by simpa using h1
        clear hq hqb h1
        go_enter Try.func74, Try.ntmps74
        go_wp2_with fail
        refine HIS.out.mono ?_
        rintro e w1 ⟨rfl, hb⟩
        have hB1 := since_step hB0 hb
        have hK1 := hK1.below hb
        have hK2 := hK2.below hb
        have ck := hK1.2; have k0 := ck 0; have k1 := ck 1; simp at k0 k1; clear ck
        have ck := hK2.2; have k2 := ck 0; have k3 := ck 1; simp at k2 k3; clear ck
        clear hb
        go_wp2_with fail
        refine (HLT.out _ (HSL.out _ hB1) (HTB.out _ hB1)).mono ?_
        rintro e w2 ⟨⟨A0, c0, rfl, ho0⟩, hb⟩
        have hB2 := since_step hB1 hb
        have hK1 := hK1.below hb
        have hK2 := hK2.below hb
        have HK : Hid (∀ V, Below w2.heap.size w2 V → Bk V w.heap.size #[.int .i64 fa, .int .i64 fc] ∧ Bk V (w.heap.size + 1) #[.int .i64 ta, .int .i64 tc]) := Lib.hid fun V hV => ⟨hK1.below hV, hK2.below hV⟩
        clear hb k0 k1 k2 k3 hK1 hK2 ho0
        go_wp2_with fail
        refine wp_region_held_drew (S := (fun V => Below w.heap.size w V ∧ Below w2.heap.size w2 V)) (by kernel_rfl) (by exact ⟨hB2.drew, (Below.refl _ _).drew⟩) (fun hHeld => ?_)
        refine wpAnyH_take (i := 0) (oi := { dst := some 19, op := _, type := _, pos := _, after := _, guard := _ }) (v := ?_) rfl (by kernel_rfl) (by kernel_rfl) (by kernel_rfl) (fun _ _ _ h => h) (Or.inl ⟨by rfl, ?_⟩) hHeld ?_
        rotate_left
        · (intro w hSw; obtain ⟨K1, K2⟩ := HK.out _ (hSw).2; have ck := K1.2; have k0 := ck 0; have k1 := ck 1; simp at k0 k1; clear ck; have cq := K2.2; have k2 := cq 0; have k3 := cq 1; simp at k2 k3; clear cq K1 K2; go_simp <;> with_reducible rfl)
        try simp only [Act.put, List.setIfInBounds_toArray, List.set_cons_zero, List.set_cons_succ]
        refine wpAnyH_take (i := 1) (oi := { dst := some 20, op := _, type := _, pos := _, after := _, guard := _ }) (v := ?_) rfl (by kernel_rfl) (by kernel_rfl) (by kernel_rfl) (fun _ _ _ h => h) (Or.inl ⟨by rfl, ?_⟩) hHeld ?_
        rotate_left
        · (intro w hSw; obtain ⟨K1, K2⟩ := HK.out _ (hSw).2; have ck := K1.2; have k0 := ck 0; have k1 := ck 1; simp at k0 k1; clear ck; have cq := K2.2; have k2 := cq 0; have k3 := cq 1; simp at k2 k3; clear cq K1 K2; go_simp <;> with_reducible rfl)
        try simp only [Act.put, List.setIfInBounds_toArray, List.set_cons_zero, List.set_cons_succ]
        refine wpAnyH_take (i := 3) (oi := { dst := some 22, op := _, type := _, pos := _, after := _, guard := _ }) (v := ?_) rfl (by kernel_rfl) (by kernel_rfl) (by kernel_rfl) (fun _ _ _ h => h) (Or.inl ⟨by rfl, ?_⟩) hHeld ?_
        rotate_left
        · (intro w hSw; obtain ⟨K1, K2⟩ := HK.out _ (hSw).2; have ck := K1.2; have k0 := ck 0; have k1 := ck 1; simp at k0 k1; clear ck; have cq := K2.2; have k2 := cq 0; have k3 := cq 1; simp at k2 k3; clear cq K1 K2; go_simp <;> with_reducible rfl)
        try simp only [Act.put, List.setIfInBounds_toArray, List.set_cons_zero, List.set_cons_succ]
        refine wpAnyH_take (i := 4) (oi := { dst := some 23, op := _, type := _, pos := _, after := _, guard := _ }) (v := ?_) rfl (by kernel_rfl) (by kernel_rfl) (by kernel_rfl) (fun _ _ _ h => h) (Or.inl ⟨by rfl, ?_⟩) hHeld ?_
        rotate_left
        · (intro w hSw; obtain ⟨K1, K2⟩ := HK.out _ (hSw).2; have ck := K1.2; have k0 := ck 0; have k1 := ck 1; simp at k0 k1; clear ck; have cq := K2.2; have k2 := cq 0; have k3 := cq 1; simp at k2 k3; clear cq K1 K2; go_simp <;> with_reducible rfl)
        try simp only [Act.put, List.setIfInBounds_toArray, List.set_cons_zero, List.set_cons_succ]
        refine wpAnyH_take (i := 5) (oi := { dst := some 24, op := _, type := _, pos := _, after := _, guard := _ }) (v := ?_) rfl (by kernel_rfl) (by kernel_rfl) (by kernel_rfl) (fun _ _ _ h => h) (Or.inl ⟨by rfl, ?_⟩) hHeld ?_
        rotate_left
        · (intro w hSw; obtain ⟨K1, K2⟩ := HK.out _ (hSw).2; have ck := K1.2; have k0 := ck 0; have k1 := ck 1; simp at k0 k1; clear ck; have cq := K2.2; have k2 := cq 0; have k3 := cq 1; simp at k2 k3; clear cq K1 K2; go_simp <;> with_reducible rfl)
        try simp only [Act.put, List.setIfInBounds_toArray, List.set_cons_zero, List.set_cons_succ]
        refine wpAnyH_ready (rs := [2]) (by kernel_rfl) (by simp) ?_
        refine AllReadyH.cons (o := { dst := some 21, op := _, type := _, pos := _, after := _, guard := _ }) rfl (fun K hK => ?_) AllReadyH.nil
        go_simp
        refine (HSE.out _ (HSL.out _ hHeld.1) (HTB.out _ hHeld.1)).mono ?_
        rintro e u1 ⟨⟨l2, A2, c2, rfl, hs2, ht2, hc2⟩, hk1⟩
        have hKeep := And.intro (since_step hHeld.1 hk1) (since_step hHeld.2 hk1)
        have HQQ := Lib.hid (And.intro hs2 (And.intro ht2 hc2))
        clear hs2 ht2 hc2
        go_wp2_with fail
        refine hK.out _ _ (by (try dsimp only); exact hKeep) (fun hHeld => ?_)
        clear hK K hKeep
        try simp only [Act.put, List.setIfInBounds_toArray, List.set_cons_zero, List.set_cons_succ]
        refine wpAnyH_ready (rs := [6]) (by kernel_rfl) (by simp) ?_
        refine AllReadyH.cons (o := { dst := some 25, op := _, type := _, pos := _, after := _, guard := _ }) rfl (fun K hK => ?_) AllReadyH.nil
        go_simp
        refine (HLO.out _ (HSL.out _ hHeld.1) (HTB.out _ hHeld.1)).mono ?_
        rintro e u2 ⟨⟨A1, c1, rfl, hs1⟩, hk2⟩
        have hKeep := And.intro (since_step hHeld.1 hk2) (since_step hHeld.2 hk2)
        have HQQ := Lib.hid (And.intro (HQQ.out.1.below hk2) (And.intro (HQQ.out.2.1.below hk2) HQQ.out.2.2))
        go_wp2_with fail
        refine hK.out _ _ (by (try dsimp only); exact hKeep) (fun hHeld => ?_)
        clear hK K hKeep
        try simp only [Act.put, List.setIfInBounds_toArray, List.set_cons_zero, List.set_cons_succ]
        refine wpAnyH_ready (rs := [7]) (by kernel_rfl) (by simp) ?_
        refine AllReadyH.cons (o := { dst := some 26, op := _, type := _, pos := _, after := _, guard := _ }) rfl (fun K hK => ?_) AllReadyH.nil
        go_simp
        refine (HSF.out A2 c2 l2 A1 c1 _ (by have := HQQ.out.2.1.1; have := HWL.out; omega) HQQ.out.2.2 HQQ.out.1 HQQ.out.2.1 hs1).mono ?_
        rintro e u3 ⟨⟨l3, A3, c3, rfl, hs3, ht3, hc3⟩, hk3⟩
        have hKeep := And.intro (since_step hHeld.1 hk3) (since_step hHeld.2 hk3)
        have HQ3 := Lib.hid (And.intro hs3 (And.intro ht3 hc3))
        clear hs3 ht3 hc3
        go_wp2_with fail
        refine hK.out _ _ (by (try dsimp only); exact hKeep) (fun hHeld => ?_)
        clear hK K hKeep
        try simp only [Act.put, List.setIfInBounds_toArray, List.set_cons_zero, List.set_cons_succ]
        refine wpAnyH_take (i := 8) (oi := { dst := some 6, op := _, type := _, pos := _, after := _, guard := _ }) (v := ?_) rfl (by kernel_rfl) (by kernel_rfl) (by kernel_rfl) (fun _ _ _ h => h) (Or.inl ⟨by rfl, ?_⟩) hHeld ?_
        rotate_left
        · (intro w hSw; obtain ⟨K1, K2⟩ := HK.out _ (hSw).2; have ck := K1.2; have k0 := ck 0; have k1 := ck 1; simp at k0 k1; clear ck; have cq := K2.2; have k2 := cq 0; have k3 := cq 1; simp at k2 k3; clear cq K1 K2; go_simp <;> with_reducible rfl)
        try simp only [Act.put, List.setIfInBounds_toArray, List.set_cons_zero, List.set_cons_succ]
        refine wpAnyH_take (i := 9) (oi := { dst := some 7, op := _, type := _, pos := _, after := _, guard := _ }) (v := ?_) rfl (by kernel_rfl) (by kernel_rfl) (by kernel_rfl) (fun _ _ _ h => h) (Or.inl ⟨by rfl, ?_⟩) hHeld ?_
        rotate_left
        · (intro w hSw; obtain ⟨K1, K2⟩ := HK.out _ (hSw).2; have ck := K1.2; have k0 := ck 0; have k1 := ck 1; simp at k0 k1; clear ck; have cq := K2.2; have k2 := cq 0; have k3 := cq 1; simp at k2 k3; clear cq K1 K2; go_simp <;> with_reducible rfl)
        try simp only [Act.put, List.setIfInBounds_toArray, List.set_cons_zero, List.set_cons_succ]
        refine wpAnyH_done (by kernel_rfl) ?_ _
        have hBz := hHeld.1
        go_wp2_with fail
        go_ret2
        rw [HR.out]
        exact ⟨⟨l3, A3, c3, rfl, HQ3.out.1, HQ3.out.2.1, HQ3.out.2.2⟩, hBz⟩
end Go.Proofs.Ytldnponbkhgijaa
end
section
namespace Go.Proofs.Ytldnponbkhgijaa
open Go.ChangeShapes Go.WideShapes Go.ChangeAt Go.RowKit
set_option linter.unusedVariables false
set_option linter.unusedSimpArgs false

structure RowS (α : Type) where
  A : Option Addr
  c : Nat
  l : List α
section
variable {α : Type}
def RowS.cells (s : RowS α) : List Value := [.slice s.A s.l.length s.c]
def RowS.val (s : RowS α) : Value := .slice s.A s.l.length s.c
theorem RowS.len (s : RowS α) : s.cells.length = 1 := rfl
theorem RowS.one (s : RowS α) : ∀ u ∈ s.cells, u.oneCell' = true := by
  intro u hu
  simp only [RowS.cells, List.mem_cons, List.not_mem_nil, or_false] at hu
  subst hu; rfl
def RowS.all (S : List (RowS α)) : List α := (S.map RowS.l).flatten
def RowsOk (w : World) (f : α → List Value) (S : List (RowS α)) : Prop := ∀ s ∈ S, Sl w s.A (rc f s.l)
theorem RowsOk.below {w w' : World} {f : α → List Value} {S : List (RowS α)} (h : RowsOk w f S) (hb : Below w.heap.size w w') : RowsOk w' f S := fun s hs => (h s hs).below hb
theorem RowsOk.alloc {w : World} {f : α → List Value} {S : List (RowS α)} (h : RowsOk w f S) (o : Obj) : RowsOk (w.alloc o) f S := fun s hs => (h s hs).alloc o
theorem RowsOk.drew {w : World} {f : α → List Value} {S : List (RowS α)} (h : RowsOk w f S) : RowsOk w.drew f S := h
theorem rd_rowsP {w : World} {f : α → List Value} {p : α → Prop} {s : Shape} {A : Option Addr} {n c : Nat} (hf : ∀ r, Rd w s r → ∃ g, r = f g ∧ p g) (h : Rd w (.sl s) [.slice A n c]) :
    ∃ l : List α, l.length = n ∧ n ≤ c ∧ c ≤ maxLen ∧ Sl w A (rc f l) ∧ ∀ y ∈ l, p y := by
  obtain ⟨A', n', c', rows, e, h1, h2, h3, h4, h5⟩ := h
  simp only [List.cons.injEq, Value.slice.injEq, and_true] at e
  obtain ⟨rfl, rfl, rfl⟩ := e
  have key : ∀ rows : List (List Value), (∀ r ∈ rows, Rd w s r) → ∃ l : List α, l.length = rows.length ∧ rows.flatten = rc f l ∧ ∀ y ∈ l, p y := by
    intro rows
    induction rows with
    | nil => intro _; exact ⟨[], rfl, rfl, fun y hy => by cases hy⟩
    | cons r rows ih =>
      intro h
      obtain ⟨l, a1, a2, a3⟩ := ih (fun x hx => h x (by simp [hx]))
      obtain ⟨x, rfl, hx⟩ := hf r (h r (by simp))
      refine ⟨x :: l, by simp [a1], by simp [a2, rc], fun y hy => ?_⟩
      rcases List.mem_cons.1 hy with rfl | hy
      · exact hx
      · exact a3 y hy
  obtain ⟨l, a1, a2, a3⟩ := key rows h5
  rw [a2] at h4
  exact ⟨l, by omega, h1, h2, h4, a3⟩
end
end Go.Proofs.Ytldnponbkhgijaa
end
