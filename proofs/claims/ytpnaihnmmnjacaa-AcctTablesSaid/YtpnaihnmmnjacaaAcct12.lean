/-
  Layer 15, twelfth part: Put, Set, Find of tables of accounts, of both sides (laid by gen_acct12.py).
-/
import Derived.Test.YtpnaihnmmnjacaaAcct11
namespace Go.Proofs.Ytpnaihnmmnjacaa
open Go.ChangeShapes Go.WideShapes Go.ChangeAt Go.RowKit
set_option linter.unusedVariables false
set_option linter.unusedSimpArgs false

open Classical in
noncomputable def putCR (cs : List Cn) (c : Cn) : Int × List Cn := if ¬ okC c.id c.mem c.kind c.L then (2, []) else if (findC cs c.id).isSome = true then (12, []) else (0, putR ahC cs c)
open Classical in
noncomputable def setCR (cs : List Cn) (c : Cn) : Int × List Cn := if ¬ okC c.id c.mem c.kind c.L then (2, []) else if (findC cs c.id).isSome = true then (0, cs.map fun y => if (y.id == c.id) = true then c else y) else (11, [])
/-- a table, and an error's number -/
def TRes (w' : World) (e : Ending) (R : Int × List Cn) : Prop :=
  ∃ (l : List Ac) (A' : Option Addr) (c' : Nat), e = .returned (.tuple #[.slice A' l.length c', .int .i64 R.1]) ∧ Sl w' A' (rc Ac.cells l) ∧ Tab w' l R.2
theorem TRes.nil (w' : World) (n : Int) : TRes w' (.returned (.tuple #[.slice none 0 0, .int .i64 n])) (n, []) := ⟨[], none, 0, rfl, Sl.nil, Tab.nil _⟩
theorem Tab.map {w : World} {g : Ac} {c : Cn} (hg : AcIs w g c) : ∀ {l : List Ac} {cs : List Cn}, Tab w l cs → Tab w (l.map fun y => if idQ g.id y = true then g else y) (cs.map fun y => if (y.id == c.id) = true then c else y)
  | [], [], _ => Tab.nil w
  | [], _ :: _, h => by have := h.1; simp at this
  | _ :: _, [], h => by have := h.1; simp at this
  | a :: l, d :: cs, h => by
    obtain ⟨h1, h2⟩ := Tab.cons.1 h
    have e1 : idQ g.id a = (d.id == c.id) := by simp only [idQ, h1.id, hg.id]
    simp only [List.map_cons]
    rw [e1]
    refine Tab.cons.2 ⟨?_, Tab.map hg h2⟩
    split
    · exact hg
    · exact h1
theorem Tab.has {w : World} {l : List Ac} {cs : List Cn} (h : Tab w l cs) (id : Int) : (findC cs id).isSome = hasQ l id := by
  rcases h.find id with ⟨h1, h2⟩ | ⟨c, h1, h2, _⟩
  · rw [h1, h2]; rfl
  · rw [h1, h2]; rfl
theorem mapC {w : World} {l : List Ac} {cs : List Cn} {c : Cn} {k : Nat} (h : Tab w l cs) (hsd : SortedQ l) (hk : k < l.length) (hid : idQ c.id l[k] = true) : (cs.map fun y => if (y.id == c.id) = true then c else y) = cs.set k c := by
  have hlc := h.1
  refine List.ext_getElem (by simp) fun j h1 h2 => ?_
  have hj : j < cs.length := by simpa using h1
  rw [List.getElem_map, List.getElem_set]
  have ej := (h.2 j (by omega) hj).id
  have ek := (h.2 k hk (by omega)).id
  have hid' : l[k].id = c.id := by simpa [idQ] using hid
  by_cases e : k = j
  · subst e
    rw [if_pos (by rw [beq_iff_eq, ← ej]; exact hid'), if_pos rfl]
  · rw [if_neg e, if_neg]
    intro hc
    rw [beq_iff_eq, ← ej] at hc
    rcases Nat.lt_or_gt_of_ne e with e | e
    · have := List.pairwise_iff_getElem.1 hsd k j hk (by omega) e
      simp only [ahQ, decide_eq_true_eq] at this
      omega
    · have := List.pairwise_iff_getElem.1 hsd j k (by omega) hk e
      simp only [ahQ, decide_eq_true_eq] at this
      omega

set_option maxHeartbeats 8000000 in
set_option maxRecDepth 100000 in
theorem aput_any (A : Option Addr) (cap : Nat) (l : List Ac) (cs : List Cn) (c : Cn) (A2 : Option Addr) (cap2 : Nat) (w : World) (hl : l.length ≤ 900000) (hcl : ∀ c ∈ cs, c.L.length ≤ 900000) (hc2 : c.L.length ≤ 900000) (hs : Sl w A (rc Ac.cells l)) (ht : Tab w l cs) (hsd : SortedQ l) (hx : Sl w A2 (rc Nt.cells c.L)) :
    Calls Try.prog 28 #[.slice A l.length cap, .agg #[.int .i64 c.id, .int .i64 c.mem, .int .i64 c.kind, .slice A2 c.L.length cap2]] w fun e w' => TRes w' e (putCR cs c) ∧ Below w.heap.size w w' := by
  have hB0 := since_alloc (Below.refl _ w) (.cells #[.int .i64 c.id, .int .i64 c.mem, .int .i64 c.kind, .slice A2 c.L.length cap2] 24)
  have hV0 := Aq.new w ⟨c.id, c.mem, c.kind, A2, c.L.length, cap2⟩
  have hs0 := hs.alloc (.cells #[.int .i64 c.id, .int .i64 c.mem, .int .i64 c.kind, .slice A2 c.L.length cap2] 24)
  have hx0 := hx.alloc (.cells #[.int .i64 c.id, .int .i64 c.mem, .int .i64 c.kind, .slice A2 c.L.length cap2] 24)
  have ht0 := ht.below ((Below.refl _ _).alloc (Nat.le_refl _) (.cells #[.int .i64 c.id, .int .i64 c.mem, .int .i64 c.kind, .slice A2 c.L.length cap2] 24))
  have hh := ht.has c.id
  have HCK := Lib.hid (fun V h => check_any c.id c.mem c.kind A2 cap2 c.L V (by omega) h)
  have HPL := Lib.hid (fun V h => qplace_any A cap l c.id V (by omega) h)
  unfold Ac.cells at hV0
  simp only at hV0
  clear hs hx ht
  by_cases hok : okC c.id c.mem c.kind c.L
  rotate_left
  · have HE : Hid (chkE c.id c.mem c.kind c.L = 2) := Lib.hid (chk_bad hok)
    have HR : Hid (putCR cs c = (2, [])) := Lib.hid (by rw [putCR, if_pos hok])
    clear hok hh hsd
    obtain ⟨q0, q1, q2, q3⟩ := hV0.got
    simp only at q0 q1 q2 q3
    have lq := hV0.lt
    go_enter Try.func28, Try.ntmps28
    go_upto_region 1 with fail
    generalize hWW : w.alloc (.cells #[.int .i64 c.id, .int .i64 c.mem, .int .i64 c.kind, .slice A2 c.L.length cap2] 24) = w0 at *
    clear hWW
    go_wp2_with fail
    refine (HCK.out _ hx0).mono ?_
    rw [HE.out]
    rintro e w1 ⟨rfl, hb⟩
    have hB1 := since_step hB0 hb
    have hV1 := hV0.below hb
    have hs1 := hs0.below hb
    have hx1 := hx0.below hb
    have ht1 := ht0.below hb
    clear hb q0 q1 q2 q3 lq hV0 hs0 hx0 ht0
    obtain ⟨q0, q1, q2, q3⟩ := hV1.got
    simp only at q0 q1 q2 q3
    have lq := hV1.lt
    go_wp2_with fail
    go_wp2_with fail
    go_ret2
    rw [HR.out]
    exact ⟨TRes.nil _ _, hB1⟩

  have HE : Hid (chkE c.id c.mem c.kind c.L = 0) := Lib.hid (chk_ok hok)
  rcases casesQ l c.id with ⟨h0, hat, _⟩ | ⟨k, hk, h0, hat, _⟩
  · have HR : Hid (putCR cs c = (0, putR ahC cs c)) := Lib.hid (by rw [putCR, if_neg (fun h => h hok), if_neg (by rw [hh, h0]; decide)])
    have HAT := Lib.hid hat
    clear hok hh h0 hat hsd
    obtain ⟨q0, q1, q2, q3⟩ := hV0.got
    simp only at q0 q1 q2 q3
    have lq := hV0.lt
    go_enter Try.func28, Try.ntmps28
    go_upto_region 1 with fail
    generalize hWW : w.alloc (.cells #[.int .i64 c.id, .int .i64 c.mem, .int .i64 c.kind, .slice A2 c.L.length cap2] 24) = w0 at *
    clear hWW
    go_wp2_with fail
    refine (HCK.out _ hx0).mono ?_
    rw [HE.out]
    rintro e w1 ⟨rfl, hb⟩
    have hB1 := since_step hB0 hb
    have hV1 := hV0.below hb
    have hs1 := hs0.below hb
    have hx1 := hx0.below hb
    have ht1 := ht0.below hb
    clear hb q0 q1 q2 q3 lq hV0 hs0 hx0 ht0
    obtain ⟨q0, q1, q2, q3⟩ := hV1.got
    simp only at q0 q1 q2 q3
    have lq := hV1.lt
    go_wp2_with fail
    refine (HPL.out _ hs1).mono ?_
    rw [HAT.out]
    rintro e w2 ⟨rfl, hb⟩
    have hB2 := since_step hB1 hb
    have hV2 := hV1.below hb
    have hs2 := hs1.below hb
    have hx2 := hx1.below hb
    have ht2 := ht1.below hb
    clear hb q0 q1 q2 q3 lq hV1 hs1 hx1 ht1
    obtain ⟨q0, q1, q2, q3⟩ := hV2.got
    simp only at q0 q1 q2 q3
    have lq := hV2.lt
    have HV : Hid (∀ V, Below w2.heap.size w2 V → Aq V w.heap.size ⟨c.id, c.mem, c.kind, A2, c.L.length, cap2⟩) := Lib.hid fun V hV => hV2.below hV
    have HS : Hid (∀ V, Below w2.heap.size w2 V → Sl V A (rc Ac.cells l)) := Lib.hid fun V hV => hs2.below hV
    have HX : Hid (∀ V, Below w2.heap.size w2 V → Sl V A2 (rc Nt.cells c.L)) := Lib.hid fun V hV => hx2.below hV
    have HT : Hid (∀ V, Below w2.heap.size w2 V → Tab V l cs) := Lib.hid fun V hV => ht2.below hV
    clear hV2 hs2 hx2 ht2 q0 q1 q2 q3 lq
    go_wp2_with fail
    refine wp_region_held_drew (S := (fun V => Below w2.heap.size w2 V)) (by kernel_rfl) (by exact (Below.refl _ _).drew) (fun hHeld => ?_)
    refine wpAnyH_take (i := 0) (oi := { dst := some 17, op := _, type := _, pos := _, after := _, guard := _ }) (v := ?_) rfl (by kernel_rfl) (by kernel_rfl) (by kernel_rfl) (fun _ _ _ h => h) (Or.inl ⟨by rfl, ?_⟩) hHeld ?_
    rotate_left
    · (intro w hSw; obtain ⟨q0, q1, q2, q3⟩ := (HV.out _ hSw).got; simp only at q0 q1 q2 q3; go_simp <;> with_reducible rfl)
    try simp only [Act.put, List.setIfInBounds_toArray, List.set_cons_zero, List.set_cons_succ]
    refine wpAnyH_take (i := 2) (oi := { dst := some 19, op := _, type := _, pos := _, after := _, guard := _ }) (v := ?_) rfl (by kernel_rfl) (by kernel_rfl) (by kernel_rfl) (fun _ _ _ h => h) (Or.inl ⟨by rfl, ?_⟩) hHeld ?_
    rotate_left
    · (intro w hSw; obtain ⟨q0, q1, q2, q3⟩ := (HV.out _ hSw).got; simp only at q0 q1 q2 q3; go_simp <;> with_reducible rfl)
    try simp only [Act.put, List.setIfInBounds_toArray, List.set_cons_zero, List.set_cons_succ]
    refine wpAnyH_ready (rs := [1]) (by kernel_rfl) (by simp) ?_
    refine AllReadyH.cons (o := { dst := some 18, op := _, type := _, pos := _, after := _, guard := _ }) rfl (fun K hK => ?_) AllReadyH.nil
    go_simp
    refine (dups_any A cap l cs _ hl hcl (HS.out _ hHeld) (HT.out _ hHeld)).mono ?_
    rintro e v1 ⟨⟨l1, A3, c3, rfl, own1, ot1⟩, hk1⟩
    have hKeep := since_step hHeld hk1
    have hl1 : l1.length ≤ 900000 := by have h1 := ot1.1; have h2 := (HT.out _ hHeld).1; omega
    go_wp2_with fail
    refine hK.out _ _ (by (try dsimp only); exact hKeep) (fun hHeld => ?_)
    clear hK K hKeep
    try simp only [Act.put, List.setIfInBounds_toArray, List.set_cons_zero, List.set_cons_succ]
    refine wpAnyH_ready (rs := [3]) (by kernel_rfl) (by simp) ?_
    refine AllReadyH.cons (o := { dst := some 20, op := _, type := _, pos := _, after := _, guard := _ }) rfl (fun K hK => ?_) AllReadyH.nil
    go_simp
    refine (dupA_any c.id c.mem c.kind A2 cap2 c.L _ hc2 (HX.out _ hHeld)).mono ?_
    rintro e v2 ⟨⟨A4, c4, rfl, own2⟩, hk2⟩
    have hKeep := since_step hHeld hk2
    have own1 := own_below own1 hk2
    have ot1 := ot1.below hk2
    go_wp2_with fail
    refine hK.out _ _ (by (try dsimp only); exact hKeep) (fun hHeld => ?_)
    clear hK K hKeep
    try simp only [Act.put, List.setIfInBounds_toArray, List.set_cons_zero, List.set_cons_succ]
    refine wpAnyH_ready (rs := [4]) (by kernel_rfl) (by simp) ?_
    refine AllReadyH.cons (o := { dst := some 21, op := _, type := _, pos := _, after := _, guard := _ }) rfl (fun K hK => ?_) AllReadyH.nil
    go_simp
    refine (put_ac A3 c3 l1 ⟨c.id, c.mem, c.kind, A4, c.L.length, c4⟩ 90 #[] ahQ _ (by omega) (Sl.of_own own1) ent_qahead (tells_qahead _ _)).mono ?_
    rw [putL_eq]
    rintro e v3 ⟨⟨A5, c5, rfl, own5⟩, hk3⟩
    have hKeep := since_step hHeld hk3
    have ot1 := ot1.below hk3
    have own2 := own_below own2 hk3
    go_wp2_with fail
    refine hK.out _ _ (by (try dsimp only); exact hKeep) (fun hHeld => ?_)
    clear hK K hKeep
    try simp only [Act.put, List.setIfInBounds_toArray, List.set_cons_zero, List.set_cons_succ]
    refine wpAnyH_take (i := 5) (oi := { dst := some 4, op := _, type := _, pos := _, after := _, guard := _ }) (v := ?_) rfl (by kernel_rfl) (by kernel_rfl) (by kernel_rfl) (fun _ _ _ h => h) (Or.inl ⟨by rfl, ?_⟩) hHeld ?_
    rotate_left
    · (intro w hSw; obtain ⟨q0, q1, q2, q3⟩ := (HV.out _ hSw).got; simp only at q0 q1 q2 q3; go_simp <;> with_reducible rfl)
    try simp only [Act.put, List.setIfInBounds_toArray, List.set_cons_zero, List.set_cons_succ]
    refine wpAnyH_take (i := 6) (oi := { dst := some 5, op := _, type := _, pos := _, after := _, guard := _ }) (v := ?_) rfl (by kernel_rfl) (by kernel_rfl) (by kernel_rfl) (fun _ _ _ h => h) (Or.inl ⟨by rfl, ?_⟩) hHeld ?_
    rotate_left
    · (intro w hSw; obtain ⟨q0, q1, q2, q3⟩ := (HV.out _ hSw).got; simp only at q0 q1 q2 q3; go_simp <;> with_reducible rfl)
    try simp only [Act.put, List.setIfInBounds_toArray, List.set_cons_zero, List.set_cons_succ]
    refine wpAnyH_done (by kernel_rfl) ?_ _
    have hBf := hB2.trans (hHeld.mono hB2.size)
    go_wp2_with fail
    go_ret2
    rw [HR.out]
    exact ⟨⟨_, A5, c5, rfl, Sl.of_own own5, ot1.tab.put ⟨rfl, rfl, rfl, rfl, Sl.of_own own2⟩⟩, hBf⟩
  · have HR : Hid (putCR cs c = (12, [])) := Lib.hid (by rw [putCR, if_neg (fun h => h hok), if_pos (by rw [hh, h0])])
    have HAT := Lib.hid hat
    have hk1 : (0 : Int) ≤ (k : Int) := by omega
    clear hok hh h0 hat hsd
    obtain ⟨q0, q1, q2, q3⟩ := hV0.got
    simp only at q0 q1 q2 q3
    have lq := hV0.lt
    go_enter Try.func28, Try.ntmps28
    go_upto_region 1 with fail
    generalize hWW : w.alloc (.cells #[.int .i64 c.id, .int .i64 c.mem, .int .i64 c.kind, .slice A2 c.L.length cap2] 24) = w0 at *
    clear hWW
    go_wp2_with fail
    refine (HCK.out _ hx0).mono ?_
    rw [HE.out]
    rintro e w1 ⟨rfl, hb⟩
    have hB1 := since_step hB0 hb
    have hV1 := hV0.below hb
    have hs1 := hs0.below hb
    have hx1 := hx0.below hb
    have ht1 := ht0.below hb
    clear hb q0 q1 q2 q3 lq hV0 hs0 hx0 ht0
    obtain ⟨q0, q1, q2, q3⟩ := hV1.got
    simp only at q0 q1 q2 q3
    have lq := hV1.lt
    go_wp2_with fail
    refine (HPL.out _ hs1).mono ?_
    rw [HAT.out]
    rintro e w2 ⟨rfl, hb⟩
    have hB2 := since_step hB1 hb
    have hV2 := hV1.below hb
    have hs2 := hs1.below hb
    have hx2 := hx1.below hb
    have ht2 := ht1.below hb
    clear hb q0 q1 q2 q3 lq hV1 hs1 hx1 ht1
    obtain ⟨q0, q1, q2, q3⟩ := hV2.got
    simp only at q0 q1 q2 q3
    have lq := hV2.lt
    go_wp2_with fail
    go_ret2
    rw [HR.out]
    exact ⟨TRes.nil _ _, hB2⟩


set_option maxHeartbeats 8000000 in
set_option maxRecDepth 100000 in
theorem aset_any (A : Option Addr) (cap : Nat) (l : List Ac) (cs : List Cn) (c : Cn) (A2 : Option Addr) (cap2 : Nat) (w : World) (hl : l.length ≤ 900000) (hcl : ∀ c ∈ cs, c.L.length ≤ 900000) (hc2 : c.L.length ≤ 900000) (hs : Sl w A (rc Ac.cells l)) (ht : Tab w l cs) (hsd : SortedQ l) (hx : Sl w A2 (rc Nt.cells c.L)) :
    Calls Try.prog 30 #[.slice A l.length cap, .agg #[.int .i64 c.id, .int .i64 c.mem, .int .i64 c.kind, .slice A2 c.L.length cap2]] w fun e w' => TRes w' e (setCR cs c) ∧ Below w.heap.size w w' := by
  have hB0 := since_alloc (Below.refl _ w) (.cells #[.int .i64 c.id, .int .i64 c.mem, .int .i64 c.kind, .slice A2 c.L.length cap2] 24)
  have hV0 := Aq.new w ⟨c.id, c.mem, c.kind, A2, c.L.length, cap2⟩
  have hs0 := hs.alloc (.cells #[.int .i64 c.id, .int .i64 c.mem, .int .i64 c.kind, .slice A2 c.L.length cap2] 24)
  have hx0 := hx.alloc (.cells #[.int .i64 c.id, .int .i64 c.mem, .int .i64 c.kind, .slice A2 c.L.length cap2] 24)
  have ht0 := ht.below ((Below.refl _ _).alloc (Nat.le_refl _) (.cells #[.int .i64 c.id, .int .i64 c.mem, .int .i64 c.kind, .slice A2 c.L.length cap2] 24))
  have hh := ht.has c.id
  have HCK := Lib.hid (fun V h => check_any c.id c.mem c.kind A2 cap2 c.L V (by omega) h)
  have HPL := Lib.hid (fun V h => qplace_any A cap l c.id V (by omega) h)
  unfold Ac.cells at hV0
  simp only at hV0
  clear hs hx ht
  by_cases hok : okC c.id c.mem c.kind c.L
  rotate_left
  · have HE : Hid (chkE c.id c.mem c.kind c.L = 2) := Lib.hid (chk_bad hok)
    have HR : Hid (setCR cs c = (2, [])) := Lib.hid (by rw [setCR, if_pos hok])
    clear hok hh hsd
    obtain ⟨q0, q1, q2, q3⟩ := hV0.got
    simp only at q0 q1 q2 q3
    have lq := hV0.lt
    go_enter Try.func30, Try.ntmps30
    go_upto_region 1 with fail
    generalize hWW : w.alloc (.cells #[.int .i64 c.id, .int .i64 c.mem, .int .i64 c.kind, .slice A2 c.L.length cap2] 24) = w0 at *
    clear hWW
    go_wp2_with fail
    refine (HCK.out _ hx0).mono ?_
    rw [HE.out]
    rintro e w1 ⟨rfl, hb⟩
    have hB1 := since_step hB0 hb
    have hV1 := hV0.below hb
    have hs1 := hs0.below hb
    have hx1 := hx0.below hb
    have ht1 := ht0.below hb
    clear hb q0 q1 q2 q3 lq hV0 hs0 hx0 ht0
    obtain ⟨q0, q1, q2, q3⟩ := hV1.got
    simp only at q0 q1 q2 q3
    have lq := hV1.lt
    go_wp2_with fail
    go_wp2_with fail
    go_ret2
    rw [HR.out]
    exact ⟨TRes.nil _ _, hB1⟩

  have HE : Hid (chkE c.id c.mem c.kind c.L = 0) := Lib.hid (chk_ok hok)
  rcases casesQ l c.id with ⟨h0, hat, _⟩ | ⟨k, hk, h0, hat, hf, hid, _⟩
  · have HR : Hid (setCR cs c = (11, [])) := Lib.hid (by rw [setCR, if_neg (fun h => h hok), if_neg (by rw [hh, h0]; decide)])
    have HAT := Lib.hid hat
    clear hok hh h0 hat hsd
    obtain ⟨q0, q1, q2, q3⟩ := hV0.got
    simp only at q0 q1 q2 q3
    have lq := hV0.lt
    go_enter Try.func30, Try.ntmps30
    go_upto_region 1 with fail
    generalize hWW : w.alloc (.cells #[.int .i64 c.id, .int .i64 c.mem, .int .i64 c.kind, .slice A2 c.L.length cap2] 24) = w0 at *
    clear hWW
    go_wp2_with fail
    refine (HCK.out _ hx0).mono ?_
    rw [HE.out]
    rintro e w1 ⟨rfl, hb⟩
    have hB1 := since_step hB0 hb
    have hV1 := hV0.below hb
    have hs1 := hs0.below hb
    have hx1 := hx0.below hb
    have ht1 := ht0.below hb
    clear hb q0 q1 q2 q3 lq hV0 hs0 hx0 ht0
    obtain ⟨q0, q1, q2, q3⟩ := hV1.got
    simp only at q0 q1 q2 q3
    have lq := hV1.lt
    go_wp2_with fail
    refine (HPL.out _ hs1).mono ?_
    rw [HAT.out]
    rintro e w2 ⟨rfl, hb⟩
    have hB2 := since_step hB1 hb
    have hV2 := hV1.below hb
    have hs2 := hs1.below hb
    have hx2 := hx1.below hb
    have ht2 := ht1.below hb
    clear hb q0 q1 q2 q3 lq hV1 hs1 hx1 ht1
    obtain ⟨q0, q1, q2, q3⟩ := hV2.got
    simp only at q0 q1 q2 q3
    have lq := hV2.lt
    go_wp2_with fail
    go_ret2
    rw [HR.out]
    exact ⟨TRes.nil _ _, hB2⟩
  · have HR : Hid (setCR cs c = (0, cs.map fun y => if (y.id == c.id) = true then c else y)) := Lib.hid (by rw [setCR, if_neg (fun h => h hok), if_pos (by rw [hh, h0])])
    have HMP : Hid ((cs.map fun y => if (y.id == c.id) = true then c else y) = cs.set k c) := Lib.hid (mapC ht0 hsd hk hid)
    have HAT := Lib.hid hat
    have hk0 : ¬ ((k : Int) < 0) := by omega
    clear hok hh h0 hat hf hid hsd
    obtain ⟨q0, q1, q2, q3⟩ := hV0.got
    simp only at q0 q1 q2 q3
    have lq := hV0.lt
    go_enter Try.func30, Try.ntmps30
    go_upto_region 1 with fail
    generalize hWW : w.alloc (.cells #[.int .i64 c.id, .int .i64 c.mem, .int .i64 c.kind, .slice A2 c.L.length cap2] 24) = w0 at *
    clear hWW
    go_wp2_with fail
    refine (HCK.out _ hx0).mono ?_
    rw [HE.out]
    rintro e w1 ⟨rfl, hb⟩
    have hB1 := since_step hB0 hb
    have hV1 := hV0.below hb
    have hs1 := hs0.below hb
    have hx1 := hx0.below hb
    have ht1 := ht0.below hb
    clear hb q0 q1 q2 q3 lq hV0 hs0 hx0 ht0
    obtain ⟨q0, q1, q2, q3⟩ := hV1.got
    simp only at q0 q1 q2 q3
    have lq := hV1.lt
    go_wp2_with fail
    refine (HPL.out _ hs1).mono ?_
    rw [HAT.out]
    rintro e w2 ⟨rfl, hb⟩
    have hB2 := since_step hB1 hb
    have hV2 := hV1.below hb
    have hs2 := hs1.below hb
    have hx2 := hx1.below hb
    have ht2 := ht1.below hb
    clear hb q0 q1 q2 q3 lq hV1 hs1 hx1 ht1
    obtain ⟨q0, q1, q2, q3⟩ := hV2.got
    simp only at q0 q1 q2 q3
    have lq := hV2.lt
    have HV : Hid (∀ V, Below w2.heap.size w2 V → Aq V w.heap.size ⟨c.id, c.mem, c.kind, A2, c.L.length, cap2⟩) := Lib.hid fun V hV => hV2.below hV
    have HS : Hid (∀ V, Below w2.heap.size w2 V → Sl V A (rc Ac.cells l)) := Lib.hid fun V hV => hs2.below hV
    have HX : Hid (∀ V, Below w2.heap.size w2 V → Sl V A2 (rc Nt.cells c.L)) := Lib.hid fun V hV => hx2.below hV
    have HT : Hid (∀ V, Below w2.heap.size w2 V → Tab V l cs) := Lib.hid fun V hV => ht2.below hV
    clear hV2 hs2 hx2 ht2 q0 q1 q2 q3 lq
    go_wp2_with fail
    refine wp_region_held_drew (S := (fun V => Below w2.heap.size w2 V)) (by kernel_rfl) (by exact (Below.refl _ _).drew) (fun hHeld => ?_)
    refine wpAnyH_take (i := 0) (oi := { dst := some 19, op := _, type := _, pos := _, after := _, guard := _ }) (v := ?_) rfl (by kernel_rfl) (by kernel_rfl) (by kernel_rfl) (fun _ _ _ h => h) (Or.inl ⟨by rfl, ?_⟩) hHeld ?_
    rotate_left
    · (intro w hSw; obtain ⟨q0, q1, q2, q3⟩ := (HV.out _ hSw).got; simp only at q0 q1 q2 q3; go_simp <;> with_reducible rfl)
    try simp only [Act.put, List.setIfInBounds_toArray, List.set_cons_zero, List.set_cons_succ]
    refine wpAnyH_take (i := 2) (oi := { dst := some 21, op := _, type := _, pos := _, after := _, guard := _ }) (v := ?_) rfl (by kernel_rfl) (by kernel_rfl) (by kernel_rfl) (fun _ _ _ h => h) (Or.inl ⟨by rfl, ?_⟩) hHeld ?_
    rotate_left
    · (intro w hSw; obtain ⟨q0, q1, q2, q3⟩ := (HV.out _ hSw).got; simp only at q0 q1 q2 q3; go_simp <;> with_reducible rfl)
    try simp only [Act.put, List.setIfInBounds_toArray, List.set_cons_zero, List.set_cons_succ]
    refine wpAnyH_take (i := 3) (oi := { dst := some 22, op := _, type := _, pos := _, after := _, guard := _ }) (v := ?_) rfl (by kernel_rfl) (by kernel_rfl) (by kernel_rfl) (fun _ _ _ h => h) (Or.inl ⟨by rfl, ?_⟩) hHeld ?_
    rotate_left
    · (intro w hSw; obtain ⟨q0, q1, q2, q3⟩ := (HV.out _ hSw).got; simp only at q0 q1 q2 q3; go_simp <;> with_reducible rfl)
    try simp only [Act.put, List.setIfInBounds_toArray, List.set_cons_zero, List.set_cons_succ]
    refine wpAnyH_ready (rs := [1]) (by kernel_rfl) (by simp) ?_
    refine AllReadyH.cons (o := { dst := some 20, op := _, type := _, pos := _, after := _, guard := _ }) rfl (fun K hK => ?_) AllReadyH.nil
    go_simp
    refine (dups_any A cap l cs _ hl hcl (HS.out _ hHeld) (HT.out _ hHeld)).mono ?_
    rintro e v1 ⟨⟨l1, A3, c3, rfl, own1, ot1⟩, hk1⟩
    have hKeep := since_step hHeld hk1
    have hl1 : l1.length ≤ 900000 := by have h1 := ot1.1; have h2 := (HT.out _ hHeld).1; omega
    go_wp2_with fail
    refine hK.out _ _ (by (try dsimp only); exact hKeep) (fun hHeld => ?_)
    clear hK K hKeep
    try simp only [Act.put, List.setIfInBounds_toArray, List.set_cons_zero, List.set_cons_succ]
    refine wpAnyH_ready (rs := [4]) (by kernel_rfl) (by simp) ?_
    refine AllReadyH.cons (o := { dst := some 23, op := _, type := _, pos := _, after := _, guard := _ }) rfl (fun K hK => ?_) AllReadyH.nil
    go_simp
    refine (dupA_any c.id c.mem c.kind A2 cap2 c.L _ hc2 (HX.out _ hHeld)).mono ?_
    rintro e v2 ⟨⟨A4, c4, rfl, own2⟩, hk2⟩
    have hKeep := since_step hHeld hk2
    have own1 := own_below own1 hk2
    have ot1 := ot1.below hk2
    go_wp2_with fail
    refine hK.out _ _ (by (try dsimp only); exact hKeep) (fun hHeld => ?_)
    clear hK K hKeep
    try simp only [Act.put, List.setIfInBounds_toArray, List.set_cons_zero, List.set_cons_succ]
    refine wpAnyH_ready (rs := [5]) (by kernel_rfl) (by simp) ?_
    refine AllReadyH.cons (o := { dst := some 24, op := _, type := _, pos := _, after := _, guard := _ }) rfl (fun K hK => ?_) AllReadyH.nil
    go_simp
    refine (set_ac A3 c3 l1 k ⟨c.id, c.mem, c.kind, A4, c.L.length, c4⟩ _ (by omega) (by have h1 := ot1.1; have h2 := (HT.out _ hHeld).1; omega) (Sl.of_own own1)).mono ?_
    rintro e v3 ⟨⟨A5, c5, rfl, own5⟩, hk3⟩
    have hKeep := since_step hHeld hk3
    have ot1 := ot1.below hk3
    have own2 := own_below own2 hk3
    go_wp2_with fail
    refine hK.out _ _ (by (try dsimp only); exact hKeep) (fun hHeld => ?_)
    clear hK K hKeep
    try simp only [Act.put, List.setIfInBounds_toArray, List.set_cons_zero, List.set_cons_succ]
    refine wpAnyH_take (i := 6) (oi := { dst := some 4, op := _, type := _, pos := _, after := _, guard := _ }) (v := ?_) rfl (by kernel_rfl) (by kernel_rfl) (by kernel_rfl) (fun _ _ _ h => h) (Or.inl ⟨by rfl, ?_⟩) hHeld ?_
    rotate_left
    · (intro w hSw; obtain ⟨q0, q1, q2, q3⟩ := (HV.out _ hSw).got; simp only at q0 q1 q2 q3; go_simp <;> with_reducible rfl)
    try simp only [Act.put, List.setIfInBounds_toArray, List.set_cons_zero, List.set_cons_succ]
    refine wpAnyH_take (i := 7) (oi := { dst := some 5, op := _, type := _, pos := _, after := _, guard := _ }) (v := ?_) rfl (by kernel_rfl) (by kernel_rfl) (by kernel_rfl) (fun _ _ _ h => h) (Or.inl ⟨by rfl, ?_⟩) hHeld ?_
    rotate_left
    · (intro w hSw; obtain ⟨q0, q1, q2, q3⟩ := (HV.out _ hSw).got; simp only at q0 q1 q2 q3; go_simp <;> with_reducible rfl)
    try simp only [Act.put, List.setIfInBounds_toArray, List.set_cons_zero, List.set_cons_succ]
    refine wpAnyH_done (by kernel_rfl) ?_ _
    have hBf := hB2.trans (hHeld.mono hB2.size)
    go_wp2_with fail
    go_ret2
    rw [HR.out]
    have hTf := (ot1.tab.set (g := ⟨c.id, c.mem, c.kind, A4, c.L.length, c4⟩) (c := c) ⟨rfl, rfl, rfl, rfl, Sl.of_own own2⟩ k)
    rw [← HMP.out] at hTf
    exact ⟨⟨_, A5, c5, by simp only [List.length_set]; rfl, Sl.of_own own5, hTf⟩, hBf⟩

theorem rputT_any (A : Option Addr) (cap : Nat) (l : List Ac) (cs : List Cn) (c : Cn) (A2 : Option Addr) (cap2 : Nat) (w : World) (B0 : Nat) (hl : l.length ≤ 900000) (hc2 : c.L.length ≤ 900000) (hown : w.ownsRow B0 24 4 (.slice A l.length cap) l.length (rc Ac.cells l)) (ht : Tab w l cs) (hsd : SortedQ l) (hx : Sl w A2 (rc Nt.cells c.L)) :
    Calls Try.prog 29 #[.slice A l.length cap, .agg #[.int .i64 c.id, .int .i64 c.mem, .int .i64 c.kind, .slice A2 c.L.length cap2]] w fun e w' => TRes w' e (putCR cs c) ∧ Below w.heap.size w w' := by
  have h := rputq_any B0 A cap l ⟨c.id, c.mem, c.kind, A2, c.L.length, cap2⟩ (isE c.id c.mem c.kind c.L) w (fun W hW => ris_any c.id c.mem c.kind A2 cap2 c.L W (by omega) (hx.below hW)) hl hown hsd
  refine h.mono fun e w' ⟨⟨A', c', he, ho⟩, hb⟩ => ⟨?_, hb⟩
  have hh := ht.has c.id
  by_cases hok : okC c.id c.mem c.kind c.L
  · rw [is_ok hok] at he ho
    unfold putQR at he ho
    rw [if_neg (by simp)] at he ho
    by_cases h9 : hasQ l c.id = true
    · rw [if_pos h9] at he ho
      rw [putCR, if_neg (fun h => h hok), if_pos (by rw [hh, h9])]
      exact ⟨[], A', c', he, Sl.of_own ho, Tab.nil _⟩
    · rw [if_neg h9] at he ho
      rw [putCR, if_neg (fun h => h hok), if_neg (by rw [hh]; exact h9)]
      exact ⟨_, A', c', he, Sl.of_own ho, (ht.below hb).put ⟨rfl, rfl, rfl, rfl, hx.below hb⟩⟩
  · rw [is_bad hok] at he ho
    unfold putQR at he ho
    rw [if_pos (by simp)] at he ho
    rw [putCR, if_pos hok]
    exact ⟨[], A', c', he, Sl.of_own ho, Tab.nil _⟩

/-- an account found, or none -/
def FRes (w' : World) (e : Ending) (r : Option Cn) : Prop :=
  match r with
  | none => e = .returned (.tuple #[.agg #[.int .i64 0, .int .i64 0, .int .i64 0, .slice none 0 0], .bool false])
  | some c => ∃ A' c', e = .returned (.tuple #[.agg #[.int .i64 c.id, .int .i64 c.mem, .int .i64 c.kind, .slice A' c.L.length c'], .bool true]) ∧ Sl w' A' (rc Nt.cells c.L)
set_option maxHeartbeats 4000000 in
set_option maxRecDepth 100000 in
theorem afind_any (A : Option Addr) (cap : Nat) (l : List Ac) (cs : List Cn) (id : Int) (w : World) (hl : l.length ≤ 900000) (hcl : ∀ c ∈ cs, c.L.length ≤ 900000) (hs : Sl w A (rc Ac.cells l)) (ht : Tab w l cs) :
    Calls Try.prog 32 #[.slice A l.length cap, .int .i64 id] w fun e w' => FRes w' e (findC cs id) ∧ Below w.heap.size w w' := by
  have hB0 := since_alloc (Below.refl _ w) (.cells #[.int .i64 0, .int .i64 0, .int .i64 0, .slice none 0 0] 24)
  have hZ0 := Bz.new w
  have hs0 := hs.alloc (.cells #[.int .i64 0, .int .i64 0, .int .i64 0, .slice none 0 0] 24)
  have ht0 := ht.below ((Below.refl _ _).alloc (Nat.le_refl _) (.cells #[.int .i64 0, .int .i64 0, .int .i64 0, .slice none 0 0] 24))
  have hfd := ht.find id
  have HPL := Lib.hid (fun V h => qplace_any A cap l id V (by omega) h)
  have hcs := @cell_set
  clear hs ht
  rcases casesQ l id with ⟨h0, hat, _⟩ | ⟨k, hk, h0, hat, hf, _⟩
  · have HR : Hid (findC cs id = none) := Lib.hid (by rcases hfd with ⟨_, h⟩ | ⟨c, h, _⟩; exact h; rw [h0] at h; cases h)
    have HAT := Lib.hid hat
    clear hfd h0 hat
    go_enter Try.func32, Try.ntmps32
    go_wp2_with fail
    refine (HPL.out _ hs0).mono ?_
    rw [HAT.out]
    rintro e w1 ⟨rfl, hb⟩
    have hB1 := since_step hB0 hb
    have hZ1 := hZ0.below hb
    clear hb
    obtain ⟨z0, z1, z2, z3⟩ := hZ1.got
    have fz := hZ1.fz
    have lz := hZ1.bk.1
    go_wp2_with fail
    refine bodyPost_ret (v := .tuple #[.agg #[.int .i64 0, .int .i64 0, .int .i64 0, .slice none 0 0], .bool false]) ?_ rfl ⟨?_, ?_⟩
    · simp [results, Try.results32, go_sem, z0, z1, z2, z3, fz]
    · rw [HR.out]; rfl
    · repeat' (first | with_reducible exact hB1 | with_reducible refine Below.setCell ?_ ?_ _ | with_reducible refine Below.alloc ?_ ?_ _)
      all_goals first | (simp; done) | (simp; omega)
  · obtain ⟨c, hc1, hc2⟩ : ∃ c, findC cs id = some c ∧ AcIs (w.alloc (.cells #[.int .i64 0, .int .i64 0, .int .i64 0, .slice none 0 0] 24)) l[k] c ∧ c.L.length ≤ 900000 := by
      rcases hfd with ⟨h, _⟩ | ⟨c, _, h1, h2, _⟩
      · rw [h0] at h; cases h
      · rw [hf] at h2
        exact ⟨c, h1, h2.below ((Below.refl _ _).alloc (Nat.le_refl _) _), hcl c (List.mem_of_find?_eq_some h1)⟩
    obtain ⟨hi, hcL⟩ := hc2
    have HR := Lib.hid hc1
    have HAT := Lib.hid hat
    have hk0 : ¬ ((k : Int) < 0) := by omega
    have hk1 : (0 : Int) ≤ (k : Int) := by omega
    have hk2 : (k : Int) < (l.length : Int) := by omega
    clear hfd h0 hat hf hc1 hcl
    go_enter Try.func32, Try.ntmps32
    go_wp2_with fail
    refine (HPL.out _ hs0).mono ?_
    rw [HAT.out]
    rintro e w1 ⟨rfl, hb⟩
    have hB1 := since_step hB0 hb
    have hZ1 := hZ0.below hb
    have hi1 := hi.below hb
    obtain ⟨b, o, rfl, hbw, hg⟩ := (hs0.below hb).ac hk
    rw [hi1.eq] at hg
    obtain ⟨g0, g1, g2, g3⟩ := hg
    simp only at g0 g1 g2 g3
    have hsl := hi1.sl
    clear hb hi hi1
    generalize l[k].cl = p1 at *
    generalize l[k].clC = p2 at *
    go_wp2_with fail
    refine (dupA_any c.id c.mem c.kind p1 p2 c.L _ hcL hsl).mono ?_
    rintro e w2 ⟨⟨A3, c3, rfl, own3⟩, hb2⟩
    have hB2 := since_step hB1 hb2
    have hZ2 := hZ1.below hb2
    have lz1 := hZ1.bk.1
    clear hb2 g0 g1 g2 g3
    obtain ⟨z0, z1, z2, z3⟩ := hZ2.got
    have fz := hZ2.fz
    have lz := hZ2.bk.1
    go_wp2_with fail
    refine bodyPost_ret (v := .tuple #[.agg #[.int .i64 c.id, .int .i64 c.mem, .int .i64 c.kind, .slice A3 c.L.length c3], .bool true]) ?_ rfl ⟨?_, ?_⟩
    · simp [results, Try.results32, go_sem, z0, z1, z2, z3, fz, hcs]
    · rw [HR.out]
      refine ⟨A3, c3, rfl, Sl.of_own (base := w1.heap.size) (e := 3) (size := 1) (n := c.L.length) (c := c3) ?_⟩
      repeat' (first | with_reducible exact own3 | with_reducible refine own_setFar ?_ ?_ _)
      all_goals first | (simp; done) | (simp; omega)
    · repeat' (first | with_reducible exact hB2 | with_reducible refine Below.setCell ?_ ?_ _ | with_reducible refine Below.alloc ?_ ?_ _)
      all_goals first | (simp; done) | (simp; omega)
theorem rfindT_any (A : Option Addr) (cap : Nat) (l : List Ac) (cs : List Cn) (id : Int) (w : World) (hl : l.length ≤ 900000) (hs : Sl w A (rc Ac.cells l)) (ht : Tab w l cs) :
    Calls Try.prog 33 #[.slice A l.length cap, .int .i64 id] w fun e w' => FRes w' e (findC cs id) ∧ Below w.heap.size w w' := by
  refine (rfindq_any A cap l id w (by omega) hs).mono fun e w' ⟨he, hb⟩ => ⟨?_, hb⟩
  rcases ht.find id with ⟨h1, h2⟩ | ⟨c, h1, h2, h3, _⟩
  · rcases casesQ l id with ⟨_, _, hz, _⟩ | ⟨k, hk, h, _⟩
    · rw [h2]; rw [hz, h1] at he; exact he
    · rw [h1] at h; cases h
  · rw [h2, ]
    rw [h1, h3.eq] at he
    exact ⟨_, _, he, h3.sl.below hb⟩
end Go.Proofs.Ytpnaihnmmnjacaa
