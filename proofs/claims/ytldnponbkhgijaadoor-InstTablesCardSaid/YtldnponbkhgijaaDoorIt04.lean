import Derived.Test.YtldnponbkhgijaaDoorIt03
section
namespace Go.Proofs.YtldnponbkhgijaaDoor
open Go.ChangeShapes Go.WideShapes Go.ChangeAt Go.RowKit
set_option linter.unusedVariables false
set_option linter.unusedSimpArgs false

theorem own_setFar {w : World} {B e size n : Nat} {v : Value} {xs : List Value} (h : w.ownsRow B e size v n xs) {p : Addr} (hp : p.block < B) (u : Value) : (w.setCell p u).ownsRow B e size v n xs := by
  obtain ⟨h1, h2⟩ := h
  refine ⟨h1, ?_⟩
  rcases h2 with h2 | ⟨g, cap, cur, hv, hg, hh, hr⟩
  · exact .inl h2
  · refine .inr ⟨g, cap, cur, hv, hg, ?_, hr⟩
    have hne : p.block ≠ g := by omega
    rw [← hh]
    unfold World.setCell
    simp [Array.getElem?_modify, hne]
theorem IB.got {w : World} {g : Nat} {i : Ins} {A : Option Addr} {c : Nat} (h : IB w g i A c) : IB w g i A c := h
theorem IB.lt {w : World} {g : Nat} {i : Ins} {A : Option Addr} {c : Nat} (h : IB w g i A c) : g < w.heap.size := h.1
def fzI : Option Ins → Ins × Bool
  | none => (⟨0, 0, 0, 0, []⟩, false)
  | some i => (i, true)
theorem FIns.one {w' : World} {e : Ending} {f : Option Ins} (h : FIns w' e f) : ∃ (A' : Option Addr) (c' : Nat), e = .returned (.tuple #[insV (fzI f).1 A' c', .bool (fzI f).2]) ∧ InsAt w' (fzI f).1 A' c' := by
  cases f with
  | none => exact ⟨none, 0, h, ⟨⟨Nat.le_refl _, Nat.zero_le _⟩, Sl.nil, (show All64 ([] : List Int) from fun x hx => by cases hx), (show In64 0 ∧ In64 0 ∧ In64 0 ∧ In64 0 from by unfold In64; omega)⟩⟩
  | some i => obtain ⟨A', c', h1, h2⟩ := h; exact ⟨A', c', h1, h2⟩
theorem fzI_len {is : List Ins} {n : Nat} (h : ∀ x ∈ is, x.mv.length ≤ n) (id : Int) : (fzI (fndI is id)).1.mv.length ≤ n := by
  cases hf : fndI is id with
  | none => simp [fzI]
  | some i => exact h i (List.mem_of_find?_eq_some hf)
theorem putN_ok {is : List Ins} {i : Ins} {n : Nat} (h : ∀ x ∈ is, x.mv.length ≤ n) (hc : i.mv.length ≤ n) : (putN is i).2.length ≤ is.length + 1 ∧ ∀ x ∈ (putN is i).2, x.mv.length ≤ n := by
  unfold putN
  split
  · exact ⟨by simp, fun x hx => by cases hx⟩
  · split
    · exact ⟨by simp, fun x hx => by cases hx⟩
    · refine ⟨length_putR _ _, fun x hx => ?_⟩
      rcases mem_putR _ _ _ hx with rfl | hx
      · exact hc
      · exact h x hx
theorem nextN_ok {is : List Ins} {id p : Int} {n : Nat} (h : ∀ x ∈ is, x.mv.length ≤ n) : (nextN is id p).2.length ≤ is.length ∧ ∀ x ∈ (nextN is id p).2, x.mv.length ≤ n := by
  unfold nextN
  split
  · exact ⟨by simp, fun x hx => by cases hx⟩
  · split
    · exact ⟨by simp, fun x hx => by cases hx⟩
    · refine ⟨by simp, fun x hx => ?_⟩
      obtain ⟨y, hy, rfl⟩ := List.mem_map.1 hx
      unfold ifNx
      split
      · exact h y hy
      · exact h y hy
theorem setPr_ok {is : List Ins} {n : Nat} (h : ∀ x ∈ is, x.mv.length ≤ n) : ∀ x ∈ is.map setPr, x.mv.length ≤ n := fun x hx => by
  obtain ⟨y, hy, rfl⟩ := List.mem_map.1 hx
  exact h y hy
set_option maxHeartbeats 16000000 in
set_option maxRecDepth 100000 in
theorem walk_InstTables (a0 : Option Addr) (n0 c0 : Nat) (a1 : Array Value) (a2 : Int) (a3 : Int) (w : World) (w0 : Rd w (.sl (.cat (.int .i64) (.cat (.int .i64) (.cat (.int .i64) (.cat (.int .i64) (.cat (.sl (.int .i64)) .nil)))))) [.slice a0 n0 c0]) (w1 : Rd w (.cat (.int .i64) (.cat (.int .i64) (.cat (.int .i64) (.cat (.int .i64) (.cat (.sl (.int .i64)) .nil))))) a1.toList) (w2 : (Lit.int .i64 a2).wf = true) (w3 : (Lit.int .i64 a3).wf = true) :
    Calls Tryd.prog 3 #[.slice a0 n0 c0, .agg a1, .int .i64 a2, .int .i64 a3] w fun e w' => e = .returned (.bool true) ∧ Below w.heap.size w w' := by
  obtain ⟨l, rfl, _, _, hsl, hdl⟩ := rd_rowsP (f := Iq.cells) (fun r => rd_insrow) w0
  obtain ⟨i0, A, c, e0, hI0⟩ := rd_inst w1
  rw [e0]
  have h3 : In64 a3 := bd_i64 w3
  obtain ⟨i, hi⟩ : ∃ i, i = shortI i0 := ⟨_, rfl⟩
  have hI : InsAt w i A c := by rw [hi]; exact hI0.short
  have hl12 : i.mv.length ≤ 12 := by rw [hi]; show (i0.mv.take 12).length ≤ 12; simp; omega
  have HSH := fun W (hb : Below w.heap.size w W) => short_any i0 A c W (hI0.below hb)
  rw [← hi] at HSH
  have hB0 := since_alloc (Below.refl _ w) (.cells #[.int .i64 i0.id, .int .i64 i0.mult, .int .i64 i0.price, .int .i64 i0.nxt, .slice A i0.mv.length c] 25)
  have hX0 := IB.new w i0 A c 25
  unfold insV at HSH ⊢
  have HSH := Lib.hid HSH
  have HX0 := Lib.hid hX0
  have HDL := Lib.hid hdl
  clear w0 w1 w2 w3 e0 hI0 hi hX0 hdl
  go_enter Tryd.func3, Tryd.ntmps3
  go_wp2_with fail
  refine (HSH.out _ hB0).mono ?_
  rintro e w1 ⟨rfl, hb1⟩
  have hB1 := since_step hB0 hb1
  go_wp2_with fail
  refine (few13_any a0 c0 l w _ hB1 (hsl.below hB1) HDL.out).mono ?_
  rintro e w2 ⟨⟨R0, A1, c1, rfl, hs0, hg0⟩, hb2⟩
  have hB2 := since_step hB1 hb2
  go_wp2_with fail
  refine (rtablen_any 12 A1 c1 R0 w _ hB2 hs0 hg0).mono ?_
  rintro e w3 ⟨⟨R, AT, cT, rfl, ownT, hgd, hR, hsd⟩, hb3⟩
  have hB3 := since_step hB2 hb3
  have hb13 := since_step (since_step hb1 hb2) hb3
  have hw2 : w.heap.size < w2.heap.size := by have h8 := hb1.size; have h9 := hb2.size; simp only [World.size_alloc] at h8; omega
  have X1 := HX0.out.below hb13
  have z0 : w3.frozen? ⟨w.heap.size, 0, none⟩ = false := (hb13.frozen (p := ⟨w.heap.size, 0, none⟩) (by simp)).trans (by simp)
  have z1 : w3.frozen? ⟨w.heap.size, 1, none⟩ = false := (hb13.frozen (p := ⟨w.heap.size, 1, none⟩) (by simp)).trans (by simp)
  have z2 : w3.frozen? ⟨w.heap.size, 2, none⟩ = false := (hb13.frozen (p := ⟨w.heap.size, 2, none⟩) (by simp)).trans (by simp)
  have z3 : w3.frozen? ⟨w.heap.size, 3, none⟩ = false := (hb13.frozen (p := ⟨w.heap.size, 3, none⟩) (by simp)).trans (by simp)
  have z4 : w3.frozen? ⟨w.heap.size, 4, none⟩ = false := (hb13.frozen (p := ⟨w.heap.size, 4, none⟩) (by simp)).trans (by simp)
  have hO := own_setFar (own_setFar (own_setFar (own_setFar (own_setFar ownT (p := ⟨w.heap.size, 0, none⟩) hw2 (.int .i64 i.id)) (p := ⟨w.heap.size, 1, none⟩) hw2 (.int .i64 i.mult)) (p := ⟨w.heap.size, 2, none⟩) hw2 (.int .i64 i.price)) (p := ⟨w.heap.size, 3, none⟩) hw2 (.int .i64 i.nxt)) (p := ⟨w.heap.size, 4, none⟩) hw2 (.slice A i.mv.length c)
  clear hb1 hb2 hb3 hb13 hB0 hB1 hB2 hs0 hg0 hsl HDL ownT HSH HX0
  obtain ⟨x0, x1, x2, x3, x4, x5⟩ := _root_.id X1
  have hX : IB (((((w3.setCell ⟨w.heap.size, 0, none⟩ (.int .i64 i.id)).setCell ⟨w.heap.size, 1, none⟩ (.int .i64 i.mult)).setCell ⟨w.heap.size, 2, none⟩ (.int .i64 i.price)).setCell ⟨w.heap.size, 3, none⟩ (.int .i64 i.nxt)).setCell ⟨w.heap.size, 4, none⟩ (.slice A i.mv.length c)) w.heap.size i A c := by
    refine ⟨by simpa using x0, ?_, ?_, ?_, ?_, ?_⟩ <;> simp [cell_set, x1, x2, x3, x4, x5]
  have hB : Below w.heap.size w (((((w3.setCell ⟨w.heap.size, 0, none⟩ (.int .i64 i.id)).setCell ⟨w.heap.size, 1, none⟩ (.int .i64 i.mult)).setCell ⟨w.heap.size, 2, none⟩ (.int .i64 i.price)).setCell ⟨w.heap.size, 3, none⟩ (.int .i64 i.nxt)).setCell ⟨w.heap.size, 4, none⟩ (.slice A i.mv.length c)) :=
    Below.setCell (Below.setCell (Below.setCell (Below.setCell (Below.setCell hB3 (by simp) _) (by simp) _) (by simp) _) (by simp) _) (by simp) _
  have HXX := Lib.hid hX
  clear hX
  go_upto_region 2 with fail
  generalize hWW : (((((w3.setCell ⟨w.heap.size, 0, none⟩ (.int .i64 i.id)).setCell ⟨w.heap.size, 1, none⟩ (.int .i64 i.mult)).setCell ⟨w.heap.size, 2, none⟩ (.int .i64 i.price)).setCell ⟨w.heap.size, 3, none⟩ (.int .i64 i.nxt)).setCell ⟨w.heap.size, 4, none⟩ (.slice A i.mv.length c)) = W at *
  clear hWW hB3 x0 x1 x2 x3 x4 x5 X1 z0 z1 z2 z3 z4
  have hX := HXX.out
  have hJ := hI.below hB
  obtain ⟨is, hK, hcs, h6⟩ := (hgd.below hB).tab
  have hso := so_of hK hsd
  clear HXX hI hgd
  have hR0 := Sl.of_own hO
  have hcl : ∀ x ∈ is, x.mv.length ≤ 900000 := fun x hx => Nat.le_trans (hcs x hx) (by omega)
  have hRl : R.length ≤ 900000 := by omega
  have him : i.mv.length ≤ 900000 := by omega
  have hKl := hK.1
  obtain ⟨p1, p2⟩ := putN_ok hcl him
  obtain ⟨s1, s2⟩ := nextN_ok (id := a2) (p := a3) hcl
  have f2 := fzI_len hcl a2
  have e2 := setPr_ok hcl
  have e1 : (is.map setPr).length ≤ 900000 := by rw [List.length_map]; omega
  have HCK := fun V (h : InsAt V i A c) => check_any i A c V h
  have HRI := fun V (h : InsAt V i A c) => ris_any i A c V h
  have HP1 := fun V h1 h2 h3 => iput_any AT cT R is i A c V hRl hcl h6 him h1 h2 h3
  have HP2 := fun V B h1 h2 h3 => rputN_any B AT cT R is i A c V hRl h1 hsd h2 h3
  have HN1 := Lib.hid (fun V h1 h2 => inext_any AT cT R is a2 a3 V hRl hcl h6 h3 hso h1 h2)
  have HN2 := Lib.hid (fun V h1 h2 => rnext_any AT cT R is a2 a3 V hRl h3 h1 h2)
  have HF1 := fun V h1 h2 => (ifind_any AT cT R is a2 V hRl hcl h1 h2).mono fun e w' ⟨h, hb⟩ => (⟨h.one, hb⟩ : (∃ (A' : Option Addr) (c' : Nat), e = Ending.returned (.tuple #[insV (fzI (fndI is a2)).1 A' c', .bool (fzI (fndI is a2)).2]) ∧ InsAt w' (fzI (fndI is a2)).1 A' c') ∧ Below V.heap.size V w')
  have HF2 := fun V h1 h2 => (rfindI_any AT cT R is a2 V hRl h1 h2).mono fun e w' ⟨h, hb⟩ => (⟨h.one, hb⟩ : (∃ (A' : Option Addr) (c' : Nat), e = Ending.returned (.tuple #[insV (fzI (fndI is a2)).1 A' c', .bool (fzI (fndI is a2)).2]) ∧ InsAt w' (fzI (fndI is a2)).1 A' c') ∧ Below V.heap.size V w')
  have HT1 := Lib.hid (fun V h1 h2 => isettle_any AT cT R is V hRl hcl h6 h1 h2)
  have HT2 := Lib.hid (fun V h1 h2 => rsettle_any AT cT R is V hRl h1 h2)
  have HSO := fun (g : Ins) (hg : g.mv.length ≤ 900000) A1 A2 c1 c2 V h1 h2 => same1_self g A1 A2 c1 c2 V hg h1 h2
  unfold insV at HCK HRI HP1 HP2 HF1 HF2 HSO
  have HSO := Lib.hid (HSO _ f2)
  obtain ⟨q, hq, t0⟩ : ∃ q : Int, q = (if okB i = true then 0 else 2) ∧ ((q == 0) == okB i) = true := ⟨_, rfl, by cases okB i <;> rfl⟩
  rw [← hq] at HCK
  clear hq f2
  generalize okB i = ok at *
  generalize putN is i = P at *
  generalize nextN is a2 a3 = Q at *
  generalize fzI (fndI is a2) = Z at *
  generalize is.map setPr = E at *
  obtain ⟨P1, P2⟩ := P
  obtain ⟨Q1, Q2⟩ := Q
  obtain ⟨g, gb⟩ := Z
  simp only at p1 p2 s1 s2 HSO HF1 HF2 HP1 HP2
  have HCK := Lib.hid HCK
  have HRI := Lib.hid HRI
  have HP1 := Lib.hid HP1
  have HP2 := Lib.hid HP2
  have HF1 := Lib.hid HF1
  have HF2 := Lib.hid HF2
  have t1 : (P1 != P1) = false := by simp
  have t2 : (Q1 != Q1) = false := by simp
  have t3 : (gb == gb) = true := by simp
  have HM1 := Lib.hid (fun A1 A2 c1 c2 (l m : List Iq) V h1 h2 (u1 : InTab V l P2) u2 => rsamei_self A1 c1 l A2 c2 m P2 V (by have := u1.1; omega) p2 h1 u1 h2 u2)
  have HM2 := Lib.hid (fun A1 A2 c1 c2 (l m : List Iq) V h1 h2 (u1 : InTab V l Q2) u2 => rsamei_self A1 c1 l A2 c2 m Q2 V (by have := u1.1; omega) s2 h1 u1 h2 u2)
  have HM3 := Lib.hid (fun A1 A2 c1 c2 (l m : List Iq) V h1 h2 (u1 : InTab V l E) u2 => rsamei_self A1 c1 l A2 c2 m E V (by have := u1.1; omega) e2 h1 u1 h2 u2)
  clear p1 p2 s1 s2 e1 e2 hcl hcs h6 hso hsd hKl
  have HJ := Lib.hid hJ
  have HX := Lib.hid hX
  refine wp_region_held_drew (S := (fun V => Below W.heap.size W V)) (by kernel_rfl) (by exact (Below.refl _ _).drew) (fun hHeld => ?_)
  refine wpAnyH_take (i := 0) (oi := { dst := some 26, op := _, type := _, pos := _, after := _, guard := _ }) (v := ?_) rfl (by kernel_rfl) (by kernel_rfl) (by kernel_rfl) (fun _ _ _ h => h) (Or.inl ⟨by rfl, ?_⟩) hHeld ?_
  rotate_left
  · (intro w hSw; obtain ⟨x0, x1, x2, x3, x4, x5⟩ := HX.out.below hSw; go_simp <;> with_reducible rfl)
  try simp only [Act.put, List.setIfInBounds_toArray, List.set_cons_zero, List.set_cons_succ]
  refine wpAnyH_take (i := 3) (oi := { dst := some 29, op := _, type := _, pos := _, after := _, guard := _ }) (v := ?_) rfl (by kernel_rfl) (by kernel_rfl) (by kernel_rfl) (fun _ _ _ h => h) (Or.inl ⟨by rfl, ?_⟩) hHeld ?_
  rotate_left
  · (intro w hSw; obtain ⟨x0, x1, x2, x3, x4, x5⟩ := HX.out.below hSw; go_simp <;> with_reducible rfl)
  try simp only [Act.put, List.setIfInBounds_toArray, List.set_cons_zero, List.set_cons_succ]
  refine wpAnyH_ready (rs := [1]) (by kernel_rfl) (by simp) ?_
  refine AllReadyH.cons (o := { dst := some 27, op := _, type := _, pos := _, after := _, guard := _ }) rfl (fun K hK => ?_) AllReadyH.nil
  go_simp
  refine (HCK.out _ (HJ.out.below hHeld)).mono ?_
  rintro e y1 ⟨rfl, hk1⟩
  have hKeep := since_step hHeld hk1
  go_wp2_with fail
  refine hK.out _ _ (by (try dsimp only); exact hKeep) (fun hHeld => ?_)
  clear hK K hKeep
  try simp only [Act.put, List.setIfInBounds_toArray, List.set_cons_zero, List.set_cons_succ]
  refine wpAnyH_take (i := 2) (oi := { dst := some 28, op := _, type := _, pos := _, after := _, guard := _ }) (v := ?_) rfl (by kernel_rfl) (by kernel_rfl) (by kernel_rfl) (fun _ _ _ h => h) (Or.inl ⟨by rfl, ?_⟩) hHeld ?_
  rotate_left
  · (intro w hSw; obtain ⟨x0, x1, x2, x3, x4, x5⟩ := HX.out.below hSw; go_simp <;> with_reducible rfl)
  try simp only [Act.put, List.setIfInBounds_toArray, List.set_cons_zero, List.set_cons_succ]
  refine wpAnyH_ready (rs := [4]) (by kernel_rfl) (by simp) ?_
  refine AllReadyH.cons (o := { dst := some 30, op := _, type := _, pos := _, after := _, guard := _ }) rfl (fun K hK => ?_) AllReadyH.nil
  go_simp
  refine (HRI.out _ (HJ.out.below hHeld)).mono ?_
  rintro e y4 ⟨rfl, hk4⟩
  have hKeep := since_step hHeld hk4
  go_wp2_with fail
  refine hK.out _ _ (by (try dsimp only); exact hKeep) (fun hHeld => ?_)
  clear hK K hKeep
  try simp only [Act.put, List.setIfInBounds_toArray, List.set_cons_zero, List.set_cons_succ]
  refine wpAnyH_take (i := 5) (oi := { dst := some 31, op := _, type := _, pos := _, after := _, guard := _ }) (v := ?_) rfl (by kernel_rfl) (by kernel_rfl) (by kernel_rfl) (fun _ _ _ h => h) (Or.inl ⟨by rfl, ?_⟩) hHeld ?_
  rotate_left
  · (intro w hSw; obtain ⟨x0, x1, x2, x3, x4, x5⟩ := HX.out.below hSw; go_simp <;> with_reducible rfl)
  try simp only [Act.put, List.setIfInBounds_toArray, List.set_cons_zero, List.set_cons_succ]
  refine wpAnyH_done (by kernel_rfl) ?_ _
  have hB := hB.trans (hHeld.mono hB.size)
  have hX := hX.below hHeld
  have hJ := hJ.below hHeld
  have hO := own_below hO hHeld
  have hK := hK.below hHeld
  have hR0 := hR0.below hHeld
  clear hHeld HX HJ HCK HRI hk1 hk4
  obtain ⟨hX_0, hX_1, hX_2, hX_3, hX_4, hX_5⟩ := hX.got
  have hX_l := hX.lt
  go_wp2_with fail
  refine (HP1.out _ hR0 hK hJ).mono ?_
  rintro e z1 ⟨⟨l1, X1, d1, rfl, hsN, htN⟩, hb⟩
  have hB := since_step hB hb
  have hX := hX.below hb
  have hJ := hJ.below hb
  have hO := own_below hO hb
  have hK := hK.below hb
  have hR0 := hR0.below hb
  clear hb
  clear hX_0 hX_1 hX_2 hX_3 hX_4 hX_5 hX_l
  have hr1 := hsN
  have ht1 := htN
  clear hsN htN
  obtain ⟨hX_0, hX_1, hX_2, hX_3, hX_4, hX_5⟩ := hX.got
  have hX_l := hX.lt
  go_wp2_with fail
  refine (HP2.out _ _ hO hK hJ).mono ?_
  rintro e z2 ⟨⟨l2, X2, d2, rfl, hsN, htN⟩, hb⟩
  have hB := since_step hB hb
  have hX := hX.below hb
  have hJ := hJ.below hb
  have hO := own_below hO hb
  have hK := hK.below hb
  have hR0 := hR0.below hb
  have hr1 := hr1.below hb
  have ht1 := ht1.below hb
  clear hb
  clear hX_0 hX_1 hX_2 hX_3 hX_4 hX_5 hX_l
  have hr2 := hsN
  have ht2 := htN
  clear hsN htN
  clear hO hX hJ
  go_wp2_with fail
  refine (HN1.out _ hR0 hK).mono ?_
  rintro e z3 ⟨⟨l3, X3, d3, rfl, hsN, htN⟩, hb⟩
  have hB := since_step hB hb
  have hK := hK.below hb
  have hR0 := hR0.below hb
  have hr1 := hr1.below hb
  have ht1 := ht1.below hb
  have hr2 := hr2.below hb
  have ht2 := ht2.below hb
  clear hb
  have hr3 := hsN
  have ht3 := htN
  clear hsN htN
  go_wp2_with fail
  refine (HN2.out _ hR0 hK).mono ?_
  rintro e z4 ⟨⟨l4, X4, d4, rfl, hsN, htN⟩, hb⟩
  have hB := since_step hB hb
  have hK := hK.below hb
  have hR0 := hR0.below hb
  have hr1 := hr1.below hb
  have ht1 := ht1.below hb
  have hr2 := hr2.below hb
  have ht2 := ht2.below hb
  have hr3 := hr3.below hb
  have ht3 := ht3.below hb
  clear hb
  have hr4 := hsN
  have ht4 := htN
  clear hsN htN
  go_wp2_with fail
  refine (HF1.out _ hR0 hK).mono ?_
  rintro e z5 ⟨⟨X5, d5, rfl, hsN⟩, hb⟩
  have hB := since_step hB hb
  have hK := hK.below hb
  have hR0 := hR0.below hb
  have hr1 := hr1.below hb
  have ht1 := ht1.below hb
  have hr2 := hr2.below hb
  have ht2 := ht2.below hb
  have hr3 := hr3.below hb
  have ht3 := ht3.below hb
  have hr4 := hr4.below hb
  have ht4 := ht4.below hb
  clear hb
  have hr5 := hsN
  clear hsN
  go_wp2_with fail
  have hP := IB.new z5 g X5 d5 25
  have hA := (Below.refl z5.heap.size z5).alloc (Nat.le_refl _) (.cells #[.int .i64 g.id, .int .i64 g.mult, .int .i64 g.price, .int .i64 g.nxt, .slice X5 g.mv.length d5] 25)
  have hK := hK.below hA
  have hR0 := hR0.below hA
  have hr1 := hr1.below hA
  have ht1 := ht1.below hA
  have hr2 := hr2.below hA
  have ht2 := ht2.below hA
  have hr3 := hr3.below hA
  have ht3 := ht3.below hA
  have hr4 := hr4.below hA
  have ht4 := ht4.below hA
  have hr5 := hr5.below hA
  have hB := since_step hB hA
  clear hA
  refine (HF2.out _ hR0 hK).mono ?_
  rintro e z6 ⟨⟨X6, d6, rfl, hsN⟩, hb⟩
  have hB := since_step hB hb
  have hK := hK.below hb
  have hR0 := hR0.below hb
  have hr1 := hr1.below hb
  have ht1 := ht1.below hb
  have hr2 := hr2.below hb
  have ht2 := ht2.below hb
  have hr3 := hr3.below hb
  have ht3 := ht3.below hb
  have hr4 := hr4.below hb
  have ht4 := ht4.below hb
  have hr5 := hr5.below hb
  have hP := hP.below hb
  clear hb
  have hr6 := hsN
  clear hsN
  obtain ⟨hP_0, hP_1, hP_2, hP_3, hP_4, hP_5⟩ := hP.got
  have hP_l := hP.lt
  go_wp2_with fail
  have hQ := IB.new z6 g X6 d6 25
  have hA := (Below.refl z6.heap.size z6).alloc (Nat.le_refl _) (.cells #[.int .i64 g.id, .int .i64 g.mult, .int .i64 g.price, .int .i64 g.nxt, .slice X6 g.mv.length d6] 25)
  have hK := hK.below hA
  have hR0 := hR0.below hA
  have hr1 := hr1.below hA
  have ht1 := ht1.below hA
  have hr2 := hr2.below hA
  have ht2 := ht2.below hA
  have hr3 := hr3.below hA
  have ht3 := ht3.below hA
  have hr4 := hr4.below hA
  have ht4 := ht4.below hA
  have hr5 := hr5.below hA
  have hP := hP.below hA
  have hr6 := hr6.below hA
  have hB := since_step hB hA
  clear hA
  refine (HM1.out X1 X2 d1 d2 l1 l2 _ hr1 hr2 ht1 ht2).mono ?_
  rintro e z7 ⟨rfl, hb⟩
  have hB := since_step hB hb
  have hK := hK.below hb
  have hR0 := hR0.below hb
  have hr1 := hr1.below hb
  have ht1 := ht1.below hb
  have hr2 := hr2.below hb
  have ht2 := ht2.below hb
  have hr3 := hr3.below hb
  have ht3 := ht3.below hb
  have hr4 := hr4.below hb
  have ht4 := ht4.below hb
  have hr5 := hr5.below hb
  have hP := hP.below hb
  have hr6 := hr6.below hb
  have hQ := hQ.below hb
  clear hb
  clear hP_0 hP_1 hP_2 hP_3 hP_4 hP_5 hP_l
  obtain ⟨hP_0, hP_1, hP_2, hP_3, hP_4, hP_5⟩ := hP.got
  have hP_l := hP.lt
  obtain ⟨hQ_0, hQ_1, hQ_2, hQ_3, hQ_4, hQ_5⟩ := hQ.got
  have hQ_l := hQ.lt
  go_wp2_with fail
  refine (HM2.out X3 X4 d3 d4 l3 l4 _ hr3 hr4 ht3 ht4).mono ?_
  rintro e z8 ⟨rfl, hb⟩
  have hB := since_step hB hb
  have hK := hK.below hb
  have hR0 := hR0.below hb
  have hr1 := hr1.below hb
  have ht1 := ht1.below hb
  have hr2 := hr2.below hb
  have ht2 := ht2.below hb
  have hr3 := hr3.below hb
  have ht3 := ht3.below hb
  have hr4 := hr4.below hb
  have ht4 := ht4.below hb
  have hr5 := hr5.below hb
  have hP := hP.below hb
  have hr6 := hr6.below hb
  have hQ := hQ.below hb
  clear hb
  clear hP_0 hP_1 hP_2 hP_3 hP_4 hP_5 hP_l hQ_0 hQ_1 hQ_2 hQ_3 hQ_4 hQ_5 hQ_l
  clear hr1 hr2 ht1 ht2 hr3 hr4 ht3 ht4
  obtain ⟨hP_0, hP_1, hP_2, hP_3, hP_4, hP_5⟩ := hP.got
  have hP_l := hP.lt
  obtain ⟨hQ_0, hQ_1, hQ_2, hQ_3, hQ_4, hQ_5⟩ := hQ.got
  have hQ_l := hQ.lt
  go_wp2_with fail
  refine (HSO.out X5 X6 d5 d6 _ hr5.sl hr6.sl).mono ?_
  rintro e z9 ⟨rfl, hb⟩
  have hB := since_step hB hb
  have hK := hK.below hb
  have hR0 := hR0.below hb
  have hr5 := hr5.below hb
  have hP := hP.below hb
  have hr6 := hr6.below hb
  have hQ := hQ.below hb
  clear hb
  clear hP_0 hP_1 hP_2 hP_3 hP_4 hP_5 hP_l hQ_0 hQ_1 hQ_2 hQ_3 hQ_4 hQ_5 hQ_l
  clear hr5 hr6 hP hQ
  go_wp2_with fail
  refine (HT1.out _ hR0 hK).mono ?_
  rintro e z10 ⟨⟨l7, X7, d7, rfl, hsN, htN⟩, hb⟩
  have hB := since_step hB hb
  have hK := hK.below hb
  have hR0 := hR0.below hb
  clear hb
  have hr7 := hsN
  have ht7 := htN
  clear hsN htN
  go_wp2_with fail
  refine (HT2.out _ hR0 hK).mono ?_
  rintro e z11 ⟨⟨l8, X8, d8, rfl, hsN, htN⟩, hb⟩
  have hB := since_step hB hb
  have hK := hK.below hb
  have hR0 := hR0.below hb
  have hr7 := hr7.below hb
  have ht7 := ht7.below hb
  clear hb
  have hr8 := hsN
  have ht8 := htN
  clear hsN htN
  go_wp2_with fail
  refine (HM3.out X7 X8 d7 d8 l7 l8 _ hr7 hr8 ht7 ht8).mono ?_
  rintro e z12 ⟨rfl, hb⟩
  have hB := since_step hB hb
  have hK := hK.below hb
  have hR0 := hR0.below hb
  have hr7 := hr7.below hb
  have ht7 := ht7.below hb
  have hr8 := hr8.below hb
  have ht8 := ht8.below hb
  clear hb
  go_wp2_with fail
  refine (lives13_any _).mono ?_
  rintro e z13 ⟨rfl, hb⟩
  have hB := since_step hB hb
  have hK := hK.below hb
  have hR0 := hR0.below hb
  have hr7 := hr7.below hb
  have ht7 := ht7.below hb
  have hr8 := hr8.below hb
  have ht8 := ht8.below hb
  clear hb
  go_wp2_with fail
  go_ret
  exact ⟨rfl, hB⟩
end Go.Proofs.YtldnponbkhgijaaDoor
end
