/-
  Layer 15, tenth part: Less, AcctApart (laid by gen_acct10.py).
-/
import Derived.Test.YtpnaihnmmnjacaaAcct9
namespace Go.Proofs.Ytpnaihnmmnjacaa
open Go.ChangeShapes Go.WideShapes Go.ChangeAt Go.RowKit
set_option linter.unusedVariables false
set_option linter.unusedSimpArgs false

def ltU (u v : Un) : Prop := u.ac < v.ac ∨ (u.ac = v.ac ∧ u.cl < v.cl)
instance (u v : Un) : Decidable (ltU u v) := by unfold ltU; infer_instance
set_option maxHeartbeats 1000000 in
set_option maxRecDepth 100000 in
theorem lessU_any (u v : Un) (w : World) :
    Calls Try.prog 39 #[u.val, v.val] w fun e w' => e = .returned (.bool (decide (ltU u v))) ∧ Below w.heap.size w w' := by
  have hB := since_alloc (since_alloc (Below.refl _ w) (.cells u.cells.toArray 26)) (.cells v.cells.toArray 26)
  obtain ⟨ua, uc⟩ := u
  obtain ⟨va, vc⟩ := v
  unfold Un.val Un.cells at *
  simp only at hB ⊢
  by_cases h1 : ua < va
  · have HE : Hid (decide (ltU ⟨ua, uc⟩ ⟨va, vc⟩) = true) := Lib.hid (by simp [ltU, h1])
    go_enter Try.func39, Try.ntmps39
    go_wp2_with fail
    go_ret
    exact ⟨retB HE.out.symm, hB⟩
  by_cases h2 : ua = va
  · subst h2
    have HE : Hid (decide (ltU ⟨ua, uc⟩ ⟨ua, vc⟩) = decide (uc < vc)) := Lib.hid (by simp [ltU])
    go_enter Try.func39, Try.ntmps39
    go_wp2_with fail
    go_ret
    exact ⟨retB HE.out.symm, hB⟩
  · have HE : Hid (decide (ltU ⟨ua, uc⟩ ⟨va, vc⟩) = false) := Lib.hid (decide_eq_false (by unfold ltU; simp only; omega))
    have h2b : (ua == va) = false := by simpa using h2
    clear h2
    go_enter Try.func39, Try.ntmps39
    go_wp2_with fail
    go_ret
    exact ⟨retB HE.out.symm, hB⟩

/-! plain mathematics of units -/
theorem mem_putR_self {α : Type} (ah : α → α → Bool) (x : α) : ∀ l : List α, x ∈ putR ah l x
  | [] => by simp [putR]
  | a :: r => by
    unfold putR
    split
    · exact List.mem_cons_of_mem _ (mem_putR_self ah x r)
    · split <;> simp
theorem length_putR_new {α : Type} (ah : α → α → Bool) (x : α) : ∀ l : List α, (∀ y ∈ l, ah y x = false → ah x y = true) → (putR ah l x).length = l.length + 1
  | [], _ => by simp [putR]
  | a :: r, h => by
    unfold putR
    split
    · simp [length_putR_new ah x r (fun y hy => h y (by simp [hy]))]
    · rename_i h1
      rw [if_pos (h a (by simp) (by simpa using h1))]
      simp
theorem okC_pair {id mem kind : Int} {L : List Nt} (h : okC id mem kind L) : L.Pairwise (fun a b => ahN a b = true) := (rising_pairwise ordN L).1 h.2.2.2.2.2.2.2.2.2
theorem unL_pair {id mem kind : Int} {L : List Nt} (h : okC id mem kind L) : (unL id kind L).Pairwise ltU := by
  unfold unL
  split
  · simp
  · rw [List.pairwise_map]
    exact (okC_pair h).imp fun hab => by simp only [ahN, decide_eq_true_eq] at hab; exact .inr ⟨rfl, hab⟩
theorem unL_ac {id kind : Int} {L : List Nt} : ∀ u ∈ unL id kind L, u.ac = id := by
  intro u hu
  unfold unL at hu
  split at hu
  · simp at hu; rw [hu]
  · rw [List.mem_map] at hu
    obtain ⟨x, _, rfl⟩ := hu
    rfl
theorem bind_facts {id mem kind : Int} {L : List Nt} {c : Int} (h : bindE id mem kind L c = 0) :
    hasU id kind (inR L c) ⟨id, c⟩ = true ∧ hasU id kind L ⟨id, c⟩ = false ∧ okC id mem kind (inR L c) ∧ (unL id kind (inR L c)).length = (unL id kind L).length + 1 := by
  unfold bindE at h
  split at h
  · cases h
  rename_i hok
  have hok : okC id mem kind L := Classical.not_not.1 hok
  split at h
  · cases h
  rename_i hk
  split at h
  · cases h
  rename_i hc
  split at h
  · cases h
  rename_i hi
  split at h
  · cases h
  rename_i h4
  have hne : ∀ y ∈ L, y.n ≠ c := fun y hy e => hi (by
    unfold inL
    rw [List.any_eq_true]
    exact ⟨y, hy, by simp [e]⟩)
  have hln : (inR L c).length = L.length + 1 := length_putR_new ahN ⟨c⟩ L fun y hy hf => by
    have := hne y hy
    simp only [ahN, decide_eq_false_iff_not, decide_eq_true_eq] at *
    omega
  refine ⟨?_, ?_, ?_, ?_⟩
  · unfold hasU unL
    rw [if_neg hk]
    simp only [decide_eq_true_eq, List.mem_map]
    exact ⟨⟨c⟩, mem_putR_self _ _ _, rfl⟩
  · unfold hasU unL
    rw [if_neg hk]
    simp only [decide_eq_false_iff_not, List.mem_map]
    rintro ⟨y, hy, e⟩
    injection e with _ e
    exact hne y hy e
  · obtain ⟨o1, o2, o3, o4, o5, o6, o7, o8, o9, o10⟩ := hok
    refine ⟨o1, o2, o3, o4, o5, o6, fun h => absurd h hk, fun h => ?_, fun j hj => ?_, ?_⟩
    · rw [hln]
      have : ¬ 0 < L.length := fun h0 => h4 ⟨h, h0⟩
      omega
    · have hm := List.getElem_mem hj
      rcases mem_putR _ _ _ hm with h | h
      · rw [h]; simpa using hc
      · obtain ⟨i, hi', e⟩ := List.getElem_of_mem h
        rw [← e]; exact o9 i hi'
    · exact (rising_pairwise ordN _).2 (pairwise_putR ordN _ _ ((rising_pairwise ordN L).1 o10))
  · unfold unL
    rw [if_neg hk, if_neg hk, List.length_map, List.length_map, hln]
theorem ltU_asy {u v : Un} (h : ltU u v) : ¬ ltU v u := by unfold ltU at *; omega

def Rel1 (R : List Ac) (Z : World) (all i : Value) (wr : World) : Prop :=
  ∃ (k : Nat) (Us : List Un) (A' : Option Addr) (c' : Nat), k ≤ R.length ∧ i = .int .i64 k ∧ all = .slice A' Us.length c' ∧ wr.ownsRow Z.heap.size 26 2 (.slice A' Us.length c') Us.length (rc Un.cells Us) ∧
    Us.Pairwise ltU ∧ (∀ u ∈ Us, ∃ (j : Nat) (h : j < R.length), j < k ∧ u.ac = R[j].id) ∧ Us.length ≤ 21 * k ∧ Below Z.heap.size Z wr

set_option maxHeartbeats 16000000 in
set_option maxRecDepth 100000 in
theorem walk_AcctApart (a0 : Option Addr) (n0 c0 : Nat) (a1 : Int) (w : World) (w0 : Rd w (.sl (.cat (.int .i64) (.cat (.int .i64) (.cat (.int .i64) (.cat (.sl (.int .i64)) .nil))))) [.slice a0 n0 c0]) (w1 : (Lit.int .i64 a1).wf = true) :
    Calls Try.prog 5 #[.slice a0 n0 c0, .int .i64 a1] w fun e w' => e = .returned (.bool true) ∧ Below w.heap.size w w' := by
  obtain ⟨l, rfl, _, _, hsl, hdl⟩ := rd_accts w0
  clear w0 w1
  go_enter Try.func5, Try.ntmps5
  go_wp2_with fail
  refine (few15_any a0 c0 l _ hsl hdl).mono ?_
  rintro e z1 ⟨⟨R0, A1, c1, rfl, hown0, hd0, hR0⟩, hb1⟩
  clear hsl hdl
  go_wp2_with fail
  refine (rtableq_any A1 c1 R0 _ (Sl.of_own hown0) hd0).mono ?_
  rintro e Z ⟨⟨R, AT, cT, rfl, ownT, hsd, hgd, hR⟩, hb2⟩
  have hgd := hgd.below hb2
  have hs := Sl.of_own ownT
  have hBZ := since_step hb1 hb2
  have hZs := hBZ.size
  have HSD : Hid (∀ i j, (hi : i < R.length) → (hj : j < R.length) → i < j → R[i].id < R[j].id) := Lib.hid fun i j hi hj hij => by
    have := List.pairwise_iff_getElem.1 hsd i j hi hj hij
    simpa [ahQ] using this
  clear hown0 hd0 hb1 hb2 ownT hsd
  go_wp2_with fail
  go_loopw [5, 6] (fun all i wr => Rel1 R Z all i wr) (fun _ i _ => R.length - (intOf i).toNat)
  case atStart => exact ⟨0, [], none, 0, by omega, rfl, rfl, own_nil _ _ _, List.Pairwise.nil, (fun u h => by cases h), by simp, Below.refl _ _⟩
  case round =>
    obtain ⟨k, Us, A', c', hk, rfl, rfl, hown, hpw, hac, hUl, hB⟩ := hrel
    have hBw := hBZ.trans (hB.mono hZs)
    by_cases hlt : k < R.length
    · obtain ⟨b, o, rfl, hbw, hg⟩ := hs.ac hlt
      obtain ⟨L, e1, e2, e3, hok⟩ := hgd R[k] (List.getElem_mem hlt)
      have hlk : (k : Int) < (R.length : Int) := by omega
      have hge : (0 : Int) ≤ (k : Int) := by omega
      have HAC : Hid (∀ u ∈ Us, u.ac < R[k].id) := Lib.hid fun u hu => by
        obtain ⟨j, hj, hjk, e⟩ := hac u hu
        rw [e]; exact HSD.out j k hj hlt hjk
      have HAC2 : Hid (∀ M : List Un, (∀ u ∈ M, u.ac = R[k].id) → ∀ u ∈ Us ++ M, ∃ (j : Nat) (h : j < R.length), j < k + 1 ∧ u.ac = R[j].id) := Lib.hid fun M hM u hu => by
        rcases List.mem_append.1 hu with h | h
        · obtain ⟨j, hj, hjk, e⟩ := hac u h
          exact ⟨j, hj, by omega, e⟩
        · exact ⟨k, hlt, by omega, hM u h⟩
      obtain ⟨v, hv⟩ : ∃ v, R[k] = v := ⟨_, rfl⟩
      rw [hv] at HAC HAC2 hg e1 e3 hok
      clear hs hac hgd hv HSD
      obtain ⟨id, mem, kind, cl, clL, cap⟩ := v
      simp only at e1 e3 hok HAC HAC2
      subst e1
      have HX : Hid (∀ V, Below Z.heap.size Z V → Ac.at ⟨id, mem, kind, cl, L.length, cap⟩ V b (o + k * 4)) := Lib.hid fun V hV => Ac.at_keep (w := Z) hg fun i => hV.cell (p := ⟨b, i, none⟩) hbw
      have HS : Hid (∀ V, Below Z.heap.size Z V → Sl V cl (rc Nt.cells L)) := Lib.hid fun V hV => e3.below hV
      have HU := Lib.hid (fun V h => units_any id mem kind cl cap L V (by omega) h)
      have HBD := Lib.hid (fun V h => bind_any id mem kind cl cap L a1 V (by omega) h)
      have hul := unL_len id kind L
      have HPW : Hid ((Us ++ unL id kind L).Pairwise ltU ∧ ∀ u ∈ Us ++ unL id kind L, ∃ (j : Nat) (h : j < R.length), j < k + 1 ∧ u.ac = R[j].id) := Lib.hid ⟨by
        rw [List.pairwise_append]
        exact ⟨hpw, unL_pair hok, fun u hu v hv => .inl (by rw [unL_ac v hv]; exact HAC.out u hu)⟩, HAC2.out _ unL_ac⟩
      have HOK := Lib.hid hok
      clear hg e3 hpw HAC HAC2 hok
      obtain ⟨g0, g1, g2, g3⟩ := HX.out _ hB
      simp only at g0 g1 g2 g3
      go_wp2_with fail
      refine (HU.out _ (HS.out _ hB)).mono ?_
      rintro e u1 ⟨⟨A2, c2, rfl, hown2⟩, hb1⟩
      have hX2 := Sl.of_own hown2
      have hown1 := own_below hown hb1
      have hB1 := since_step hB hb1
      have hZ1 := hB1.size
      clear g0 g1 g2 g3 hown hown2 hb1
      go_wp2_with (first
        | (at_builtin; refine wpList_app rfl (.tmp 20) (.tmp 25) rfl EUn rfl rfl hown1 (m := (unL id kind L).length) (news := rc Un.cells (unL id kind L)) (rc_length Un.len _) hX2 (rc_one Un.one _) (by unfold maxLen; omega) (by omega) hZ1 ?_; intro A3 c3 u2 hown3 hg3 hb3; have hB2 := hB1.trans hb3; obtain ⟨g0, g1, g2, g3⟩ := HX.out _ hB2; simp only at g0 g1 g2 g3)
        | fail)
      rw [← rc_append] at hown3
      have hln : (Us ++ unL id kind L).length = Us.length + (unL id kind L).length := List.length_append
      have HLN := Lib.hid hln
      have hZ2 := hB2.size
      clear hX2 hown1 hb3 hln
      refine (HBD.out _ (HS.out _ hB2)).mono ?_
      obtain ⟨E, hE⟩ : ∃ E, bindE id mem kind L a1 = E := ⟨_, rfl⟩
      have HE := Lib.hid hE
      rw [hE]
      clear hE
      rintro e u3 ⟨hres, hb3⟩
      have hB3 := since_step hB2 hb3
      have hown4 := own_below hown3 hb3
      clear hown3 hb3 g0 g1 g2 g3
      by_cases hE0 : E = 0
      · subst hE0
        obtain ⟨F1, F2, F3, F4⟩ := bind_facts HE.out
        obtain ⟨A4, c4, rfl, ownM⟩ := hres.some
        have hM := Sl.of_own ownM
        obtain ⟨M, hMM⟩ : ∃ M, inR L a1 = M := ⟨_, rfl⟩
        rw [hMM] at F1 F3 F4 hM ⊢
        have hMl : M.length ≤ 100 := by rw [← hMM]; have := length_putR (ah := ahN) ⟨a1⟩ L; unfold inR; omega
        clear ownM hres hMM
        have HH1 := Lib.hid (fun V h => hasA_any id mem kind A4 c4 M ⟨id, a1⟩ V (by omega) h)
        have HH2 := Lib.hid (fun V h => hasA_any id mem kind cl cap L ⟨id, a1⟩ V (by omega) h)
        have HCK := Lib.hid (fun V h => check_any id mem kind A4 c4 M V (by omega) h)
        have HU4 := Lib.hid (fun V h => units_any id mem kind A4 c4 M V (by omega) h)
        rw [F1] at HH1
        rw [F2] at HH2
        rw [chk_ok F3] at HCK
        have HF4 := Lib.hid F4
        unfold Un.val at HH1 HH2
        simp only at HH1 HH2
        clear F1 F2 F3 F4
        obtain ⟨g0, g1, g2, g3⟩ := HX.out _ (since_alloc hB3 (.cells #[.int .i64 id, .int .i64 mem, .int .i64 kind, .slice A4 M.length c4] 24))
        simp only at g0 g1 g2 g3
        go_upto_region 9 with fail
        have hB9 := since_alloc (since_alloc hB3 (.cells #[.int .i64 id, .int .i64 mem, .int .i64 kind, .slice A4 M.length c4] 24)) (.cells #[.int .i64 id, .int .i64 a1] 26)
        have hV9 := (Aq.new u3 ⟨id, mem, kind, A4, M.length, c4⟩).below ((Below.refl _ _).alloc (Nat.le_refl _) (.cells #[.int .i64 id, .int .i64 a1] 26))
        have hU9 : Un.Bx ((u3.alloc (.cells #[.int .i64 id, .int .i64 mem, .int .i64 kind, .slice A4 M.length c4] 24)).alloc (.cells #[.int .i64 id, .int .i64 a1] 26)) (u3.heap.size + 1) ⟨id, a1⟩ := by have h := Un.Bx.new (u3.alloc (.cells #[.int .i64 id, .int .i64 mem, .int .i64 kind, .slice A4 M.length c4] 24)) ⟨id, a1⟩; rw [World.size_alloc] at h; exact h
        have hown9 := (hown4.alloc (.cells #[.int .i64 id, .int .i64 mem, .int .i64 kind, .slice A4 M.length c4] 24)).alloc (.cells #[.int .i64 id, .int .i64 a1] 26)
        have hM9 := (hM.alloc (.cells #[.int .i64 id, .int .i64 mem, .int .i64 kind, .slice A4 M.length c4] 24)).alloc (.cells #[.int .i64 id, .int .i64 a1] 26)
        unfold Ac.cells at hV9
        simp only at hV9
        generalize hWW : (u3.alloc (.cells #[.int .i64 id, .int .i64 mem, .int .i64 kind, .slice A4 M.length c4] 24)).alloc (.cells #[.int .i64 id, .int .i64 a1] 26) = W at *
        clear hWW g0 g1 g2 g3 hM hown4
        have HV : Hid (∀ V, Below W.heap.size W V → Aq V u3.heap.size ⟨id, mem, kind, A4, M.length, c4⟩ ∧ Un.Bx V (u3.heap.size + 1) ⟨id, a1⟩ ∧ Ac.at ⟨id, mem, kind, cl, L.length, cap⟩ V b (o + k * 4)) := Lib.hid fun V hV => ⟨hV9.below hV, hU9.below hV, HX.out _ (hB9.trans (hV.mono hB9.size))⟩
        have HSM : Hid (∀ V, Below W.heap.size W V → Sl V A4 (rc Nt.cells M)) := Lib.hid fun V hV => hM9.below hV
        have HSL : Hid (∀ V, Below W.heap.size W V → Sl V cl (rc Nt.cells L)) := Lib.hid fun V hV => HS.out _ (hB9.trans (hV.mono hB9.size))
        clear hV9 hU9 hM9
        have hwl : IntKind.i64.wrap (((unL id kind L).length : Int) + 1) = ((unL id kind L).length : Int) + 1 := IntWalk.i64_in _ (by omega)
        go_wp2_with fail
        refine wp_region_held_drew (S := (fun V => Below W.heap.size W V)) (by kernel_rfl) (by exact (Below.refl _ _).drew) (fun hHeld => ?_)
        refine wpAnyH_take (i := 0) (oi := { dst := some 43, op := _, type := _, pos := _, after := _, guard := _ }) (v := ?_) rfl (by kernel_rfl) (by kernel_rfl) (by kernel_rfl) (fun _ _ _ h => h) (Or.inl ⟨by rfl, ?_⟩) hHeld ?_
        rotate_left
        · (intro w hSw; obtain ⟨hq, hu, g0, g1, g2, g3⟩ := HV.out _ hSw; obtain ⟨q0, q1, q2, q3⟩ := hq.got; obtain ⟨u0, u1⟩ := hu.got; simp only at g0 g1 g2 g3 q0 q1 q2 q3 u0 u1; go_simp <;> with_reducible rfl)
        try simp only [Act.put, List.setIfInBounds_toArray, List.set_cons_zero, List.set_cons_succ]
        refine wpAnyH_take (i := 1) (oi := { dst := some 44, op := _, type := _, pos := _, after := _, guard := _ }) (v := ?_) rfl (by kernel_rfl) (by kernel_rfl) (by kernel_rfl) (fun _ _ _ h => h) (Or.inl ⟨by rfl, ?_⟩) hHeld ?_
        rotate_left
        · (intro w hSw; obtain ⟨hq, hu, g0, g1, g2, g3⟩ := HV.out _ hSw; obtain ⟨q0, q1, q2, q3⟩ := hq.got; obtain ⟨u0, u1⟩ := hu.got; simp only at g0 g1 g2 g3 q0 q1 q2 q3 u0 u1; go_simp <;> with_reducible rfl)
        try simp only [Act.put, List.setIfInBounds_toArray, List.set_cons_zero, List.set_cons_succ]
        refine wpAnyH_take (i := 2) (oi := { dst := some 45, op := _, type := _, pos := _, after := _, guard := _ }) (v := ?_) rfl (by kernel_rfl) (by kernel_rfl) (by kernel_rfl) (fun _ _ _ h => h) (Or.inl ⟨by rfl, ?_⟩) hHeld ?_
        rotate_left
        · (intro w hSw; obtain ⟨hq, hu, g0, g1, g2, g3⟩ := HV.out _ hSw; obtain ⟨q0, q1, q2, q3⟩ := hq.got; obtain ⟨u0, u1⟩ := hu.got; simp only at g0 g1 g2 g3 q0 q1 q2 q3 u0 u1; go_simp <;> with_reducible rfl)
        try simp only [Act.put, List.setIfInBounds_toArray, List.set_cons_zero, List.set_cons_succ]
        refine wpAnyH_take (i := 3) (oi := { dst := some 46, op := _, type := _, pos := _, after := _, guard := _ }) (v := ?_) rfl (by kernel_rfl) (by kernel_rfl) (by kernel_rfl) (fun _ _ _ h => h) (Or.inl ⟨by rfl, ?_⟩) hHeld ?_
        rotate_left
        · (intro w hSw; obtain ⟨hq, hu, g0, g1, g2, g3⟩ := HV.out _ hSw; obtain ⟨q0, q1, q2, q3⟩ := hq.got; obtain ⟨u0, u1⟩ := hu.got; simp only at g0 g1 g2 g3 q0 q1 q2 q3 u0 u1; go_simp <;> with_reducible rfl)
        try simp only [Act.put, List.setIfInBounds_toArray, List.set_cons_zero, List.set_cons_succ]
        refine wpAnyH_take (i := 4) (oi := { dst := some 47, op := _, type := _, pos := _, after := _, guard := _ }) (v := ?_) rfl (by kernel_rfl) (by kernel_rfl) (by kernel_rfl) (fun _ _ _ h => h) (Or.inl ⟨by rfl, ?_⟩) hHeld ?_
        rotate_left
        · (intro w hSw; obtain ⟨hq, hu, g0, g1, g2, g3⟩ := HV.out _ hSw; obtain ⟨q0, q1, q2, q3⟩ := hq.got; obtain ⟨u0, u1⟩ := hu.got; simp only at g0 g1 g2 g3 q0 q1 q2 q3 u0 u1; go_simp <;> with_reducible rfl)
        try simp only [Act.put, List.setIfInBounds_toArray, List.set_cons_zero, List.set_cons_succ]
        refine wpAnyH_ready (rs := [5]) (by kernel_rfl) (by simp) ?_
        refine AllReadyH.cons (o := { dst := some 48, op := _, type := _, pos := _, after := _, guard := _ }) rfl (fun K hK => ?_) AllReadyH.nil
        go_simp
        refine (HH1.out _ (HSM.out _ hHeld)).mono ?_
        rintro e y5 ⟨rfl, hk5⟩
        have hKeep := since_step hHeld hk5
        go_wp2_with fail
        refine hK.out _ _ (by (try dsimp only); exact hKeep) (fun hHeld => ?_)
        clear hK K hKeep
        try simp only [Act.put, List.setIfInBounds_toArray, List.set_cons_zero, List.set_cons_succ]
        refine wpAnyH_take (i := 6) (oi := { dst := some 49, op := _, type := _, pos := _, after := _, guard := _ }) (v := ?_) rfl (by kernel_rfl) (by kernel_rfl) (by kernel_rfl) (fun _ _ _ h => h) (Or.inl ⟨by rfl, ?_⟩) hHeld ?_
        rotate_left
        · (intro w hSw; obtain ⟨hq, hu, g0, g1, g2, g3⟩ := HV.out _ hSw; obtain ⟨q0, q1, q2, q3⟩ := hq.got; obtain ⟨u0, u1⟩ := hu.got; simp only at g0 g1 g2 g3 q0 q1 q2 q3 u0 u1; go_simp <;> with_reducible rfl)
        try simp only [Act.put, List.setIfInBounds_toArray, List.set_cons_zero, List.set_cons_succ]
        refine wpAnyH_take (i := 7) (oi := { dst := some 50, op := _, type := _, pos := _, after := _, guard := _ }) (v := ?_) rfl (by kernel_rfl) (by kernel_rfl) (by kernel_rfl) (fun _ _ _ h => h) (Or.inl ⟨by rfl, ?_⟩) hHeld ?_
        rotate_left
        · (intro w hSw; obtain ⟨hq, hu, g0, g1, g2, g3⟩ := HV.out _ hSw; obtain ⟨q0, q1, q2, q3⟩ := hq.got; obtain ⟨u0, u1⟩ := hu.got; simp only at g0 g1 g2 g3 q0 q1 q2 q3 u0 u1; go_simp <;> with_reducible rfl)
        try simp only [Act.put, List.setIfInBounds_toArray, List.set_cons_zero, List.set_cons_succ]
        refine wpAnyH_take (i := 8) (oi := { dst := some 51, op := _, type := _, pos := _, after := _, guard := _ }) (v := ?_) rfl (by kernel_rfl) (by kernel_rfl) (by kernel_rfl) (fun _ _ _ h => h) (Or.inl ⟨by rfl, ?_⟩) hHeld ?_
        rotate_left
        · (intro w hSw; obtain ⟨hq, hu, g0, g1, g2, g3⟩ := HV.out _ hSw; obtain ⟨q0, q1, q2, q3⟩ := hq.got; obtain ⟨u0, u1⟩ := hu.got; simp only at g0 g1 g2 g3 q0 q1 q2 q3 u0 u1; go_simp <;> with_reducible rfl)
        try simp only [Act.put, List.setIfInBounds_toArray, List.set_cons_zero, List.set_cons_succ]
        refine wpAnyH_take (i := 9) (oi := { dst := some 52, op := _, type := _, pos := _, after := _, guard := _ }) (v := ?_) rfl (by kernel_rfl) (by kernel_rfl) (by kernel_rfl) (fun _ _ _ h => h) (Or.inl ⟨by rfl, ?_⟩) hHeld ?_
        rotate_left
        · (intro w hSw; obtain ⟨hq, hu, g0, g1, g2, g3⟩ := HV.out _ hSw; obtain ⟨q0, q1, q2, q3⟩ := hq.got; obtain ⟨u0, u1⟩ := hu.got; simp only at g0 g1 g2 g3 q0 q1 q2 q3 u0 u1; go_simp <;> with_reducible rfl)
        try simp only [Act.put, List.setIfInBounds_toArray, List.set_cons_zero, List.set_cons_succ]
        refine wpAnyH_take (i := 10) (oi := { dst := some 53, op := _, type := _, pos := _, after := _, guard := _ }) (v := ?_) rfl (by kernel_rfl) (by kernel_rfl) (by kernel_rfl) (fun _ _ _ h => h) (Or.inl ⟨by rfl, ?_⟩) hHeld ?_
        rotate_left
        · (intro w hSw; obtain ⟨hq, hu, g0, g1, g2, g3⟩ := HV.out _ hSw; obtain ⟨q0, q1, q2, q3⟩ := hq.got; obtain ⟨u0, u1⟩ := hu.got; simp only at g0 g1 g2 g3 q0 q1 q2 q3 u0 u1; go_simp <;> with_reducible rfl)
        try simp only [Act.put, List.setIfInBounds_toArray, List.set_cons_zero, List.set_cons_succ]
        refine wpAnyH_take (i := 11) (oi := { dst := some 54, op := _, type := _, pos := _, after := _, guard := _ }) (v := ?_) rfl (by kernel_rfl) (by kernel_rfl) (by kernel_rfl) (fun _ _ _ h => h) (Or.inl ⟨by rfl, ?_⟩) hHeld ?_
        rotate_left
        · (intro w hSw; obtain ⟨hq, hu, g0, g1, g2, g3⟩ := HV.out _ hSw; obtain ⟨q0, q1, q2, q3⟩ := hq.got; obtain ⟨u0, u1⟩ := hu.got; simp only at g0 g1 g2 g3 q0 q1 q2 q3 u0 u1; go_simp <;> with_reducible rfl)
        try simp only [Act.put, List.setIfInBounds_toArray, List.set_cons_zero, List.set_cons_succ]
        refine wpAnyH_take (i := 12) (oi := { dst := some 55, op := _, type := _, pos := _, after := _, guard := _ }) (v := ?_) rfl (by kernel_rfl) (by kernel_rfl) (by kernel_rfl) (fun _ _ _ h => h) (Or.inl ⟨by rfl, ?_⟩) hHeld ?_
        rotate_left
        · (intro w hSw; obtain ⟨hq, hu, g0, g1, g2, g3⟩ := HV.out _ hSw; obtain ⟨q0, q1, q2, q3⟩ := hq.got; obtain ⟨u0, u1⟩ := hu.got; simp only at g0 g1 g2 g3 q0 q1 q2 q3 u0 u1; go_simp <;> with_reducible rfl)
        try simp only [Act.put, List.setIfInBounds_toArray, List.set_cons_zero, List.set_cons_succ]
        refine wpAnyH_ready (rs := [13]) (by kernel_rfl) (by simp) ?_
        refine AllReadyH.cons (o := { dst := some 56, op := _, type := _, pos := _, after := _, guard := _ }) rfl (fun K hK => ?_) AllReadyH.nil
        go_simp
        refine (HH2.out _ (HSL.out _ hHeld)).mono ?_
        rintro e y13 ⟨rfl, hk13⟩
        have hKeep := since_step hHeld hk13
        go_wp2_with fail
        refine hK.out _ _ (by (try dsimp only); exact hKeep) (fun hHeld => ?_)
        clear hK K hKeep
        try simp only [Act.put, List.setIfInBounds_toArray, List.set_cons_zero, List.set_cons_succ]
        refine wpAnyH_take (i := 14) (oi := { dst := some 57, op := _, type := _, pos := _, after := _, guard := _ }) (v := ?_) rfl (by kernel_rfl) (by kernel_rfl) (by kernel_rfl) (fun _ _ _ h => h) (Or.inl ⟨by rfl, ?_⟩) hHeld ?_
        rotate_left
        · (intro w hSw; obtain ⟨hq, hu, g0, g1, g2, g3⟩ := HV.out _ hSw; obtain ⟨q0, q1, q2, q3⟩ := hq.got; obtain ⟨u0, u1⟩ := hu.got; simp only at g0 g1 g2 g3 q0 q1 q2 q3 u0 u1; go_simp <;> with_reducible rfl)
        try simp only [Act.put, List.setIfInBounds_toArray, List.set_cons_zero, List.set_cons_succ]
        refine wpAnyH_take (i := 15) (oi := { dst := some 58, op := _, type := _, pos := _, after := _, guard := _ }) (v := ?_) rfl (by kernel_rfl) (by kernel_rfl) (by kernel_rfl) (fun _ _ _ h => h) (Or.inl ⟨by rfl, ?_⟩) hHeld ?_
        rotate_left
        · (intro w hSw; obtain ⟨hq, hu, g0, g1, g2, g3⟩ := HV.out _ hSw; obtain ⟨q0, q1, q2, q3⟩ := hq.got; obtain ⟨u0, u1⟩ := hu.got; simp only at g0 g1 g2 g3 q0 q1 q2 q3 u0 u1; go_simp <;> with_reducible rfl)
        try simp only [Act.put, List.setIfInBounds_toArray, List.set_cons_zero, List.set_cons_succ]
        refine wpAnyH_take (i := 16) (oi := { dst := some 59, op := _, type := _, pos := _, after := _, guard := _ }) (v := ?_) rfl (by kernel_rfl) (by kernel_rfl) (by kernel_rfl) (fun _ _ _ h => h) (Or.inl ⟨by rfl, ?_⟩) hHeld ?_
        rotate_left
        · (intro w hSw; obtain ⟨hq, hu, g0, g1, g2, g3⟩ := HV.out _ hSw; obtain ⟨q0, q1, q2, q3⟩ := hq.got; obtain ⟨u0, u1⟩ := hu.got; simp only at g0 g1 g2 g3 q0 q1 q2 q3 u0 u1; go_simp <;> with_reducible rfl)
        try simp only [Act.put, List.setIfInBounds_toArray, List.set_cons_zero, List.set_cons_succ]
        refine wpAnyH_ready (rs := [17]) (by kernel_rfl) (by simp) ?_
        refine AllReadyH.cons (o := { dst := some 60, op := _, type := _, pos := _, after := _, guard := _ }) rfl (fun K hK => ?_) AllReadyH.nil
        go_simp
        refine (HCK.out _ (HSM.out _ hHeld)).mono ?_
        rintro e y17 ⟨rfl, hk17⟩
        have hKeep := since_step hHeld hk17
        go_wp2_with fail
        refine hK.out _ _ (by (try dsimp only); exact hKeep) (fun hHeld => ?_)
        clear hK K hKeep
        try simp only [Act.put, List.setIfInBounds_toArray, List.set_cons_zero, List.set_cons_succ]
        refine wpAnyH_take (i := 18) (oi := { dst := some 61, op := _, type := _, pos := _, after := _, guard := _ }) (v := ?_) rfl (by kernel_rfl) (by kernel_rfl) (by kernel_rfl) (fun _ _ _ h => h) (Or.inl ⟨by rfl, ?_⟩) hHeld ?_
        rotate_left
        · (intro w hSw; obtain ⟨hq, hu, g0, g1, g2, g3⟩ := HV.out _ hSw; obtain ⟨q0, q1, q2, q3⟩ := hq.got; obtain ⟨u0, u1⟩ := hu.got; simp only at g0 g1 g2 g3 q0 q1 q2 q3 u0 u1; go_simp <;> with_reducible rfl)
        try simp only [Act.put, List.setIfInBounds_toArray, List.set_cons_zero, List.set_cons_succ]
        refine wpAnyH_take (i := 19) (oi := { dst := some 62, op := _, type := _, pos := _, after := _, guard := _ }) (v := ?_) rfl (by kernel_rfl) (by kernel_rfl) (by kernel_rfl) (fun _ _ _ h => h) (Or.inl ⟨by rfl, ?_⟩) hHeld ?_
        rotate_left
        · (intro w hSw; obtain ⟨hq, hu, g0, g1, g2, g3⟩ := HV.out _ hSw; obtain ⟨q0, q1, q2, q3⟩ := hq.got; obtain ⟨u0, u1⟩ := hu.got; simp only at g0 g1 g2 g3 q0 q1 q2 q3 u0 u1; go_simp <;> with_reducible rfl)
        try simp only [Act.put, List.setIfInBounds_toArray, List.set_cons_zero, List.set_cons_succ]
        refine wpAnyH_take (i := 20) (oi := { dst := some 63, op := _, type := _, pos := _, after := _, guard := _ }) (v := ?_) rfl (by kernel_rfl) (by kernel_rfl) (by kernel_rfl) (fun _ _ _ h => h) (Or.inl ⟨by rfl, ?_⟩) hHeld ?_
        rotate_left
        · (intro w hSw; obtain ⟨hq, hu, g0, g1, g2, g3⟩ := HV.out _ hSw; obtain ⟨q0, q1, q2, q3⟩ := hq.got; obtain ⟨u0, u1⟩ := hu.got; simp only at g0 g1 g2 g3 q0 q1 q2 q3 u0 u1; go_simp <;> with_reducible rfl)
        try simp only [Act.put, List.setIfInBounds_toArray, List.set_cons_zero, List.set_cons_succ]
        refine wpAnyH_take (i := 21) (oi := { dst := some 64, op := _, type := _, pos := _, after := _, guard := _ }) (v := ?_) rfl (by kernel_rfl) (by kernel_rfl) (by kernel_rfl) (fun _ _ _ h => h) (Or.inl ⟨by rfl, ?_⟩) hHeld ?_
        rotate_left
        · (intro w hSw; obtain ⟨hq, hu, g0, g1, g2, g3⟩ := HV.out _ hSw; obtain ⟨q0, q1, q2, q3⟩ := hq.got; obtain ⟨u0, u1⟩ := hu.got; simp only at g0 g1 g2 g3 q0 q1 q2 q3 u0 u1; go_simp <;> with_reducible rfl)
        try simp only [Act.put, List.setIfInBounds_toArray, List.set_cons_zero, List.set_cons_succ]
        refine wpAnyH_take (i := 24) (oi := { dst := some 67, op := _, type := _, pos := _, after := _, guard := _ }) (v := ?_) rfl (by kernel_rfl) (by kernel_rfl) (by kernel_rfl) (fun _ _ _ h => h) (Or.inl ⟨by rfl, ?_⟩) hHeld ?_
        rotate_left
        · (intro w hSw; obtain ⟨hq, hu, g0, g1, g2, g3⟩ := HV.out _ hSw; obtain ⟨q0, q1, q2, q3⟩ := hq.got; obtain ⟨u0, u1⟩ := hu.got; simp only at g0 g1 g2 g3 q0 q1 q2 q3 u0 u1; go_simp <;> with_reducible rfl)
        try simp only [Act.put, List.setIfInBounds_toArray, List.set_cons_zero, List.set_cons_succ]
        refine wpAnyH_take (i := 25) (oi := { dst := some 68, op := _, type := _, pos := _, after := _, guard := _ }) (v := ?_) rfl (by kernel_rfl) (by kernel_rfl) (by kernel_rfl) (fun _ _ _ h => h) (Or.inl ⟨by rfl, ?_⟩) hHeld ?_
        rotate_left
        · (intro w hSw; obtain ⟨hq, hu, g0, g1, g2, g3⟩ := HV.out _ hSw; obtain ⟨q0, q1, q2, q3⟩ := hq.got; obtain ⟨u0, u1⟩ := hu.got; simp only at g0 g1 g2 g3 q0 q1 q2 q3 u0 u1; go_simp <;> with_reducible rfl)
        try simp only [Act.put, List.setIfInBounds_toArray, List.set_cons_zero, List.set_cons_succ]
        refine wpAnyH_take (i := 26) (oi := { dst := some 69, op := _, type := _, pos := _, after := _, guard := _ }) (v := ?_) rfl (by kernel_rfl) (by kernel_rfl) (by kernel_rfl) (fun _ _ _ h => h) (Or.inl ⟨by rfl, ?_⟩) hHeld ?_
        rotate_left
        · (intro w hSw; obtain ⟨hq, hu, g0, g1, g2, g3⟩ := HV.out _ hSw; obtain ⟨q0, q1, q2, q3⟩ := hq.got; obtain ⟨u0, u1⟩ := hu.got; simp only at g0 g1 g2 g3 q0 q1 q2 q3 u0 u1; go_simp <;> with_reducible rfl)
        try simp only [Act.put, List.setIfInBounds_toArray, List.set_cons_zero, List.set_cons_succ]
        refine wpAnyH_take (i := 27) (oi := { dst := some 70, op := _, type := _, pos := _, after := _, guard := _ }) (v := ?_) rfl (by kernel_rfl) (by kernel_rfl) (by kernel_rfl) (fun _ _ _ h => h) (Or.inl ⟨by rfl, ?_⟩) hHeld ?_
        rotate_left
        · (intro w hSw; obtain ⟨hq, hu, g0, g1, g2, g3⟩ := HV.out _ hSw; obtain ⟨q0, q1, q2, q3⟩ := hq.got; obtain ⟨u0, u1⟩ := hu.got; simp only at g0 g1 g2 g3 q0 q1 q2 q3 u0 u1; go_simp <;> with_reducible rfl)
        try simp only [Act.put, List.setIfInBounds_toArray, List.set_cons_zero, List.set_cons_succ]
        refine wpAnyH_ready (rs := [22]) (by kernel_rfl) (by simp) ?_
        refine AllReadyH.cons (o := { dst := some 65, op := _, type := _, pos := _, after := _, guard := _ }) rfl (fun K hK => ?_) AllReadyH.nil
        go_simp
        refine (HU4.out _ (HSM.out _ hHeld)).mono ?_
        rintro e y22 ⟨⟨A5, c5, rfl, hown5⟩, hk22⟩
        have hKeep := since_step hHeld hk22
        have hF4 := HF4.out
        rw [hF4]
        clear hF4 hown5
        go_wp2_with fail
        refine hK.out _ _ (by (try dsimp only); exact hKeep) (fun hHeld => ?_)
        clear hK K hKeep
        try simp only [Act.put, List.setIfInBounds_toArray, List.set_cons_zero, List.set_cons_succ]
        refine wpAnyH_take (i := 23) (oi := { dst := some 66, op := _, type := _, pos := _, after := _, guard := _ }) (v := ?_) rfl (by kernel_rfl) (by kernel_rfl) (by kernel_rfl) (fun _ _ _ h => h) (Or.inl ⟨by rfl, ?_⟩) hHeld ?_
        rotate_left
        · (intro w hSw; obtain ⟨hq, hu, g0, g1, g2, g3⟩ := HV.out _ hSw; obtain ⟨q0, q1, q2, q3⟩ := hq.got; obtain ⟨u0, u1⟩ := hu.got; simp only at g0 g1 g2 g3 q0 q1 q2 q3 u0 u1; go_simp <;> with_reducible rfl)
        try simp only [Act.put, List.setIfInBounds_toArray, List.set_cons_zero, List.set_cons_succ]
        refine wpAnyH_ready (rs := [28]) (by kernel_rfl) (by simp) ?_
        refine AllReadyH.cons (o := { dst := some 71, op := _, type := _, pos := _, after := _, guard := _ }) rfl (fun K hK => ?_) AllReadyH.nil
        go_simp
        refine (HU.out _ (HSL.out _ hHeld)).mono ?_
        rintro e y28 ⟨⟨A6, c6, rfl, hown6⟩, hk28⟩
        have hKeep := since_step hHeld hk28
        clear hown6
        go_wp2_with fail
        refine hK.out _ _ (by (try dsimp only); exact hKeep) (fun hHeld => ?_)
        clear hK K hKeep
        try simp only [Act.put, List.setIfInBounds_toArray, List.set_cons_zero, List.set_cons_succ]
        refine wpAnyH_take (i := 29) (oi := { dst := some 72, op := _, type := _, pos := _, after := _, guard := _ }) (v := ?_) rfl (by kernel_rfl) (by kernel_rfl) (by kernel_rfl) (fun _ _ _ h => h) (Or.inl ⟨by rfl, ?_⟩) hHeld ?_
        rotate_left
        · (intro w hSw; obtain ⟨hq, hu, g0, g1, g2, g3⟩ := HV.out _ hSw; obtain ⟨q0, q1, q2, q3⟩ := hq.got; obtain ⟨u0, u1⟩ := hu.got; simp only at g0 g1 g2 g3 q0 q1 q2 q3 u0 u1; go_simp <;> with_reducible rfl)
        try simp only [Act.put, List.setIfInBounds_toArray, List.set_cons_zero, List.set_cons_succ]
        refine wpAnyH_take (i := 30) (oi := { dst := some 73, op := _, type := _, pos := _, after := _, guard := _ }) (v := ?_) rfl (by kernel_rfl) (by kernel_rfl) (by kernel_rfl) (fun _ _ _ h => h) (Or.inl ⟨by rfl, ?_⟩) hHeld ?_
        rotate_left
        · (intro w hSw; obtain ⟨hq, hu, g0, g1, g2, g3⟩ := HV.out _ hSw; obtain ⟨q0, q1, q2, q3⟩ := hq.got; obtain ⟨u0, u1⟩ := hu.got; simp only at g0 g1 g2 g3 q0 q1 q2 q3 u0 u1; go_simp <;> with_reducible rfl)
        try simp only [Act.put, List.setIfInBounds_toArray, List.set_cons_zero, List.set_cons_succ]
        refine wpAnyH_take (i := 31) (oi := { dst := some 74, op := _, type := _, pos := _, after := _, guard := _ }) (v := ?_) rfl (by kernel_rfl) (by kernel_rfl) (by kernel_rfl) (fun _ _ _ h => h) (Or.inl ⟨by rfl, ?_⟩) hHeld ?_
        rotate_left
        · (intro w hSw; obtain ⟨hq, hu, g0, g1, g2, g3⟩ := HV.out _ hSw; obtain ⟨q0, q1, q2, q3⟩ := hq.got; obtain ⟨u0, u1⟩ := hu.got; simp only at g0 g1 g2 g3 q0 q1 q2 q3 u0 u1; go_simp <;> with_reducible rfl)
        try simp only [Act.put, List.setIfInBounds_toArray, List.set_cons_zero, List.set_cons_succ]
        refine wpAnyH_take (i := 32) (oi := { dst := some 75, op := _, type := _, pos := _, after := _, guard := _ }) (v := ?_) rfl (by kernel_rfl) (by kernel_rfl) (by kernel_rfl) (fun _ _ _ h => h) (Or.inl ⟨by rfl, ?_⟩) hHeld ?_
        rotate_left
        · (intro w hSw; obtain ⟨hq, hu, g0, g1, g2, g3⟩ := HV.out _ hSw; obtain ⟨q0, q1, q2, q3⟩ := hq.got; obtain ⟨u0, u1⟩ := hu.got; simp only at g0 g1 g2 g3 q0 q1 q2 q3 u0 u1; go_simp <;> with_reducible rfl)
        try simp only [Act.put, List.setIfInBounds_toArray, List.set_cons_zero, List.set_cons_succ]
        refine wpAnyH_take (i := 33) (oi := { dst := some 76, op := _, type := _, pos := _, after := _, guard := _ }) (v := ?_) rfl (by kernel_rfl) (by kernel_rfl) (by kernel_rfl) (fun _ _ _ h => h) (Or.inl ⟨by rfl, ?_⟩) hHeld ?_
        rotate_left
        · (intro w hSw; obtain ⟨hq, hu, g0, g1, g2, g3⟩ := HV.out _ hSw; obtain ⟨q0, q1, q2, q3⟩ := hq.got; obtain ⟨u0, u1⟩ := hu.got; simp only at g0 g1 g2 g3 q0 q1 q2 q3 u0 u1; go_simp <;> with_reducible rfl)
        try simp only [Act.put, List.setIfInBounds_toArray, List.set_cons_zero, List.set_cons_succ]
        refine wpAnyH_done (by kernel_rfl) ?_ _
        have hBf := hB9.trans (hHeld.mono hB9.size)
        have hownf := own_below hown9 hHeld
        have hLn := HLN.out
        go_wp2_with fail
        go_roundw
        case rel => exact ⟨k + 1, Us ++ unL id kind L, A3, c3, by omega, by go_num, by rw [hLn], by rw [hLn]; exact hownf, HPW.out.1, HPW.out.2, by rw [hLn]; omega, hBf⟩
        case measure => simp [intOf]; omega
      · have he := hres.zero hE0
        subst he
        have hEb : (E == 0) = false := by simpa using hE0
        clear hres hE0
        obtain ⟨g0, g1, g2, g3⟩ := HX.out _ (since_alloc hB3 (.cells #[.int .i64 0, .int .i64 0, .int .i64 0, .slice none 0 0] 24))
        simp only at g0 g1 g2 g3
        go_upto_region 9 with fail
        have hB9 := since_alloc (since_alloc hB3 (.cells #[.int .i64 0, .int .i64 0, .int .i64 0, .slice none 0 0] 24)) (.cells #[.int .i64 id, .int .i64 a1] 26)
        have hown9 := (hown4.alloc (.cells #[.int .i64 0, .int .i64 0, .int .i64 0, .slice none 0 0] 24)).alloc (.cells #[.int .i64 id, .int .i64 a1] 26)
        generalize hWW : (u3.alloc (.cells #[.int .i64 0, .int .i64 0, .int .i64 0, .slice none 0 0] 24)).alloc (.cells #[.int .i64 id, .int .i64 a1] 26) = W at *
        clear hWW g0 g1 g2 g3 hown4
        go_wp2_with fail
        refine wp_region_held_drew (S := (fun V => Below W.heap.size W V)) (by kernel_rfl) (by exact (Below.refl _ _).drew) (fun hHeld => ?_)
        refine wpAnyH_take (i := 0) (oi := { dst := some 43, op := _, type := _, pos := _, after := _, guard := _ }) (v := ?_) rfl (by kernel_rfl) (by kernel_rfl) (by kernel_rfl) (fun _ _ _ h => h) (Or.inl ⟨by rfl, ?_⟩) hHeld ?_
        rotate_left
        · (intro w hSw; have hdummy := trivial; go_simp <;> with_reducible rfl)
        try simp only [Act.put, List.setIfInBounds_toArray, List.set_cons_zero, List.set_cons_succ]
        refine wpAnyH_take (i := 1) (oi := { dst := some 44, op := _, type := _, pos := _, after := _, guard := _ }) (v := ?_) rfl (by kernel_rfl) (by kernel_rfl) (by kernel_rfl) (fun _ _ _ h => h) (Or.inl ⟨by rfl, ?_⟩) hHeld ?_
        rotate_left
        · (intro w hSw; have hdummy := trivial; go_simp <;> with_reducible rfl)
        try simp only [Act.put, List.setIfInBounds_toArray, List.set_cons_zero, List.set_cons_succ]
        refine wpAnyH_take (i := 2) (oi := { dst := some 45, op := _, type := _, pos := _, after := _, guard := _ }) (v := ?_) rfl (by kernel_rfl) (by kernel_rfl) (by kernel_rfl) (fun _ _ _ h => h) (Or.inl ⟨by rfl, ?_⟩) hHeld ?_
        rotate_left
        · (intro w hSw; have hdummy := trivial; go_simp <;> with_reducible rfl)
        try simp only [Act.put, List.setIfInBounds_toArray, List.set_cons_zero, List.set_cons_succ]
        refine wpAnyH_take (i := 3) (oi := { dst := some 46, op := _, type := _, pos := _, after := _, guard := _ }) (v := undef) rfl (by kernel_rfl) (by kernel_rfl) (by kernel_rfl) (fun _ _ _ h => h) (Or.inr ⟨by rfl, rfl⟩) hHeld ?_
        try simp only [Act.put, List.setIfInBounds_toArray, List.set_cons_zero, List.set_cons_succ]
        refine wpAnyH_take (i := 4) (oi := { dst := some 47, op := _, type := _, pos := _, after := _, guard := _ }) (v := undef) rfl (by kernel_rfl) (by kernel_rfl) (by kernel_rfl) (fun _ _ _ h => h) (Or.inr ⟨by rfl, rfl⟩) hHeld ?_
        try simp only [Act.put, List.setIfInBounds_toArray, List.set_cons_zero, List.set_cons_succ]
        refine wpAnyH_take (i := 5) (oi := { dst := some 48, op := _, type := _, pos := _, after := _, guard := _ }) (v := undef) rfl (by kernel_rfl) (by kernel_rfl) (by kernel_rfl) (fun _ _ _ h => h) (Or.inr ⟨by rfl, rfl⟩) hHeld ?_
        try simp only [Act.put, List.setIfInBounds_toArray, List.set_cons_zero, List.set_cons_succ]
        refine wpAnyH_take (i := 6) (oi := { dst := some 49, op := _, type := _, pos := _, after := _, guard := _ }) (v := undef) rfl (by kernel_rfl) (by kernel_rfl) (by kernel_rfl) (fun _ _ _ h => h) (Or.inr ⟨by rfl, rfl⟩) hHeld ?_
        try simp only [Act.put, List.setIfInBounds_toArray, List.set_cons_zero, List.set_cons_succ]
        refine wpAnyH_take (i := 7) (oi := { dst := some 50, op := _, type := _, pos := _, after := _, guard := _ }) (v := undef) rfl (by kernel_rfl) (by kernel_rfl) (by kernel_rfl) (fun _ _ _ h => h) (Or.inr ⟨by rfl, rfl⟩) hHeld ?_
        try simp only [Act.put, List.setIfInBounds_toArray, List.set_cons_zero, List.set_cons_succ]
        refine wpAnyH_take (i := 8) (oi := { dst := some 51, op := _, type := _, pos := _, after := _, guard := _ }) (v := undef) rfl (by kernel_rfl) (by kernel_rfl) (by kernel_rfl) (fun _ _ _ h => h) (Or.inr ⟨by rfl, rfl⟩) hHeld ?_
        try simp only [Act.put, List.setIfInBounds_toArray, List.set_cons_zero, List.set_cons_succ]
        refine wpAnyH_take (i := 9) (oi := { dst := some 52, op := _, type := _, pos := _, after := _, guard := _ }) (v := undef) rfl (by kernel_rfl) (by kernel_rfl) (by kernel_rfl) (fun _ _ _ h => h) (Or.inr ⟨by rfl, rfl⟩) hHeld ?_
        try simp only [Act.put, List.setIfInBounds_toArray, List.set_cons_zero, List.set_cons_succ]
        refine wpAnyH_take (i := 10) (oi := { dst := some 53, op := _, type := _, pos := _, after := _, guard := _ }) (v := undef) rfl (by kernel_rfl) (by kernel_rfl) (by kernel_rfl) (fun _ _ _ h => h) (Or.inr ⟨by rfl, rfl⟩) hHeld ?_
        try simp only [Act.put, List.setIfInBounds_toArray, List.set_cons_zero, List.set_cons_succ]
        refine wpAnyH_take (i := 11) (oi := { dst := some 54, op := _, type := _, pos := _, after := _, guard := _ }) (v := undef) rfl (by kernel_rfl) (by kernel_rfl) (by kernel_rfl) (fun _ _ _ h => h) (Or.inr ⟨by rfl, rfl⟩) hHeld ?_
        try simp only [Act.put, List.setIfInBounds_toArray, List.set_cons_zero, List.set_cons_succ]
        refine wpAnyH_take (i := 12) (oi := { dst := some 55, op := _, type := _, pos := _, after := _, guard := _ }) (v := undef) rfl (by kernel_rfl) (by kernel_rfl) (by kernel_rfl) (fun _ _ _ h => h) (Or.inr ⟨by rfl, rfl⟩) hHeld ?_
        try simp only [Act.put, List.setIfInBounds_toArray, List.set_cons_zero, List.set_cons_succ]
        refine wpAnyH_take (i := 13) (oi := { dst := some 56, op := _, type := _, pos := _, after := _, guard := _ }) (v := undef) rfl (by kernel_rfl) (by kernel_rfl) (by kernel_rfl) (fun _ _ _ h => h) (Or.inr ⟨by rfl, rfl⟩) hHeld ?_
        try simp only [Act.put, List.setIfInBounds_toArray, List.set_cons_zero, List.set_cons_succ]
        refine wpAnyH_take (i := 14) (oi := { dst := some 57, op := _, type := _, pos := _, after := _, guard := _ }) (v := undef) rfl (by kernel_rfl) (by kernel_rfl) (by kernel_rfl) (fun _ _ _ h => h) (Or.inr ⟨by rfl, rfl⟩) hHeld ?_
        try simp only [Act.put, List.setIfInBounds_toArray, List.set_cons_zero, List.set_cons_succ]
        refine wpAnyH_take (i := 15) (oi := { dst := some 58, op := _, type := _, pos := _, after := _, guard := _ }) (v := undef) rfl (by kernel_rfl) (by kernel_rfl) (by kernel_rfl) (fun _ _ _ h => h) (Or.inr ⟨by rfl, rfl⟩) hHeld ?_
        try simp only [Act.put, List.setIfInBounds_toArray, List.set_cons_zero, List.set_cons_succ]
        refine wpAnyH_take (i := 16) (oi := { dst := some 59, op := _, type := _, pos := _, after := _, guard := _ }) (v := undef) rfl (by kernel_rfl) (by kernel_rfl) (by kernel_rfl) (fun _ _ _ h => h) (Or.inr ⟨by rfl, rfl⟩) hHeld ?_
        try simp only [Act.put, List.setIfInBounds_toArray, List.set_cons_zero, List.set_cons_succ]
        refine wpAnyH_take (i := 17) (oi := { dst := some 60, op := _, type := _, pos := _, after := _, guard := _ }) (v := undef) rfl (by kernel_rfl) (by kernel_rfl) (by kernel_rfl) (fun _ _ _ h => h) (Or.inr ⟨by rfl, rfl⟩) hHeld ?_
        try simp only [Act.put, List.setIfInBounds_toArray, List.set_cons_zero, List.set_cons_succ]
        refine wpAnyH_take (i := 18) (oi := { dst := some 61, op := _, type := _, pos := _, after := _, guard := _ }) (v := undef) rfl (by kernel_rfl) (by kernel_rfl) (by kernel_rfl) (fun _ _ _ h => h) (Or.inr ⟨by rfl, rfl⟩) hHeld ?_
        try simp only [Act.put, List.setIfInBounds_toArray, List.set_cons_zero, List.set_cons_succ]
        refine wpAnyH_take (i := 19) (oi := { dst := some 62, op := _, type := _, pos := _, after := _, guard := _ }) (v := undef) rfl (by kernel_rfl) (by kernel_rfl) (by kernel_rfl) (fun _ _ _ h => h) (Or.inr ⟨by rfl, rfl⟩) hHeld ?_
        try simp only [Act.put, List.setIfInBounds_toArray, List.set_cons_zero, List.set_cons_succ]
        refine wpAnyH_take (i := 20) (oi := { dst := some 63, op := _, type := _, pos := _, after := _, guard := _ }) (v := undef) rfl (by kernel_rfl) (by kernel_rfl) (by kernel_rfl) (fun _ _ _ h => h) (Or.inr ⟨by rfl, rfl⟩) hHeld ?_
        try simp only [Act.put, List.setIfInBounds_toArray, List.set_cons_zero, List.set_cons_succ]
        refine wpAnyH_take (i := 21) (oi := { dst := some 64, op := _, type := _, pos := _, after := _, guard := _ }) (v := undef) rfl (by kernel_rfl) (by kernel_rfl) (by kernel_rfl) (fun _ _ _ h => h) (Or.inr ⟨by rfl, rfl⟩) hHeld ?_
        try simp only [Act.put, List.setIfInBounds_toArray, List.set_cons_zero, List.set_cons_succ]
        refine wpAnyH_take (i := 22) (oi := { dst := some 65, op := _, type := _, pos := _, after := _, guard := _ }) (v := undef) rfl (by kernel_rfl) (by kernel_rfl) (by kernel_rfl) (fun _ _ _ h => h) (Or.inr ⟨by rfl, rfl⟩) hHeld ?_
        try simp only [Act.put, List.setIfInBounds_toArray, List.set_cons_zero, List.set_cons_succ]
        refine wpAnyH_take (i := 23) (oi := { dst := some 66, op := _, type := _, pos := _, after := _, guard := _ }) (v := undef) rfl (by kernel_rfl) (by kernel_rfl) (by kernel_rfl) (fun _ _ _ h => h) (Or.inr ⟨by rfl, rfl⟩) hHeld ?_
        try simp only [Act.put, List.setIfInBounds_toArray, List.set_cons_zero, List.set_cons_succ]
        refine wpAnyH_take (i := 24) (oi := { dst := some 67, op := _, type := _, pos := _, after := _, guard := _ }) (v := undef) rfl (by kernel_rfl) (by kernel_rfl) (by kernel_rfl) (fun _ _ _ h => h) (Or.inr ⟨by rfl, rfl⟩) hHeld ?_
        try simp only [Act.put, List.setIfInBounds_toArray, List.set_cons_zero, List.set_cons_succ]
        refine wpAnyH_take (i := 25) (oi := { dst := some 68, op := _, type := _, pos := _, after := _, guard := _ }) (v := undef) rfl (by kernel_rfl) (by kernel_rfl) (by kernel_rfl) (fun _ _ _ h => h) (Or.inr ⟨by rfl, rfl⟩) hHeld ?_
        try simp only [Act.put, List.setIfInBounds_toArray, List.set_cons_zero, List.set_cons_succ]
        refine wpAnyH_take (i := 26) (oi := { dst := some 69, op := _, type := _, pos := _, after := _, guard := _ }) (v := undef) rfl (by kernel_rfl) (by kernel_rfl) (by kernel_rfl) (fun _ _ _ h => h) (Or.inr ⟨by rfl, rfl⟩) hHeld ?_
        try simp only [Act.put, List.setIfInBounds_toArray, List.set_cons_zero, List.set_cons_succ]
        refine wpAnyH_take (i := 27) (oi := { dst := some 70, op := _, type := _, pos := _, after := _, guard := _ }) (v := undef) rfl (by kernel_rfl) (by kernel_rfl) (by kernel_rfl) (fun _ _ _ h => h) (Or.inr ⟨by rfl, rfl⟩) hHeld ?_
        try simp only [Act.put, List.setIfInBounds_toArray, List.set_cons_zero, List.set_cons_succ]
        refine wpAnyH_take (i := 28) (oi := { dst := some 71, op := _, type := _, pos := _, after := _, guard := _ }) (v := undef) rfl (by kernel_rfl) (by kernel_rfl) (by kernel_rfl) (fun _ _ _ h => h) (Or.inr ⟨by rfl, rfl⟩) hHeld ?_
        try simp only [Act.put, List.setIfInBounds_toArray, List.set_cons_zero, List.set_cons_succ]
        refine wpAnyH_take (i := 29) (oi := { dst := some 72, op := _, type := _, pos := _, after := _, guard := _ }) (v := undef) rfl (by kernel_rfl) (by kernel_rfl) (by kernel_rfl) (fun _ _ _ h => h) (Or.inr ⟨by rfl, rfl⟩) hHeld ?_
        try simp only [Act.put, List.setIfInBounds_toArray, List.set_cons_zero, List.set_cons_succ]
        refine wpAnyH_take (i := 30) (oi := { dst := some 73, op := _, type := _, pos := _, after := _, guard := _ }) (v := undef) rfl (by kernel_rfl) (by kernel_rfl) (by kernel_rfl) (fun _ _ _ h => h) (Or.inr ⟨by rfl, rfl⟩) hHeld ?_
        try simp only [Act.put, List.setIfInBounds_toArray, List.set_cons_zero, List.set_cons_succ]
        refine wpAnyH_take (i := 31) (oi := { dst := some 74, op := _, type := _, pos := _, after := _, guard := _ }) (v := undef) rfl (by kernel_rfl) (by kernel_rfl) (by kernel_rfl) (fun _ _ _ h => h) (Or.inr ⟨by rfl, rfl⟩) hHeld ?_
        try simp only [Act.put, List.setIfInBounds_toArray, List.set_cons_zero, List.set_cons_succ]
        refine wpAnyH_take (i := 32) (oi := { dst := some 75, op := _, type := _, pos := _, after := _, guard := _ }) (v := undef) rfl (by kernel_rfl) (by kernel_rfl) (by kernel_rfl) (fun _ _ _ h => h) (Or.inr ⟨by rfl, rfl⟩) hHeld ?_
        try simp only [Act.put, List.setIfInBounds_toArray, List.set_cons_zero, List.set_cons_succ]
        refine wpAnyH_take (i := 33) (oi := { dst := some 76, op := _, type := _, pos := _, after := _, guard := _ }) (v := ?_) rfl (by kernel_rfl) (by kernel_rfl) (by kernel_rfl) (fun _ _ _ h => h) (Or.inl ⟨by rfl, ?_⟩) hHeld ?_
        rotate_left
        · (intro w hSw; have hdummy := trivial; go_simp <;> with_reducible rfl)
        try simp only [Act.put, List.setIfInBounds_toArray, List.set_cons_zero, List.set_cons_succ]
        refine wpAnyH_done (by kernel_rfl) ?_ _
        have hBf := hB9.trans (hHeld.mono hB9.size)
        have hownf := own_below hown9 hHeld
        have hLn := HLN.out
        go_wp2_with fail
        go_roundw
        case rel => exact ⟨k + 1, Us ++ unL id kind L, A3, c3, by omega, by go_num, by rw [hLn], by rw [hLn]; exact hownf, HPW.out.1, HPW.out.2, by rw [hLn]; omega, hBf⟩
        case measure => simp [intOf]; omega
    · obtain rfl : k = R.length := by omega
      have hsU := Sl.of_own hown
      have HPW : Hid (∀ i, (h : i + 1 < Us.length) → decide (ltU (Us[i]'(by omega)) Us[i + 1]) = true ∧ decide (ltU Us[i + 1] (Us[i]'(by omega))) = false) := Lib.hid fun i h => by
        have := List.pairwise_iff_getElem.1 hpw i (i + 1) (by omega) h (by omega)
        exact ⟨decide_eq_true this, decide_eq_false (ltU_asy this)⟩
      have hUl : Us.length ≤ 1000 := by omega
      have hrs := hBw.size
      clear hpw hac hown hs hgd HSD
      generalize wr = Y at *
      go_wp2_with fail
      go_loopw [10] (fun i wr => ∃ k : Nat, 1 ≤ k ∧ (k ≤ Us.length ∨ k = 1) ∧ i = .int .i64 k ∧ Below Y.heap.size Y wr) (fun i _ => Us.length - (intOf i).toNat)
      case atStart => exact ⟨1, by omega, .inr rfl, rfl, Below.refl _ _⟩
      case round =>
        obtain ⟨k, hk1, hk2, rfl, hB2⟩ := hrel
        have hBw2 := hBw.trans (hB2.mono hrs)
        by_cases hlt : k < Us.length
        · obtain ⟨j, rfl⟩ : ∃ j, k = j + 1 := ⟨k - 1, by omega⟩
          obtain ⟨b, o, rfl, hbw, hg⟩ := (hsU.below hB2).un hlt
          obtain ⟨b', o', e, _, hg'⟩ := (hsU.below hB2).un (k := j) (by omega)
          injection e with e
          injection e with e1 e2 e3
          subst e1; subst e2
          obtain ⟨F1, F2⟩ := HPW.out j hlt
          have hlk : ((j + 1 : Nat) : Int) < (Us.length : Int) := by omega
          have hj1 : IntKind.i64.wrap (j : Int) = (j : Int) := IntWalk.i64_in _ (by omega)
          have hj2 : (0 : Int) ≤ (j : Int) := by omega
          have hj3 : (j : Int) < (Us.length : Int) := by omega
          have hj4 : (0 : Int) ≤ ((j + 1 : Nat) : Int) := by omega
          have hj5 : (0 : Int) ≤ (j : Int) + 1 := by omega
          have hj6 : (j : Int) + 1 < (Us.length : Int) := by omega
          have HXU : Hid (∀ V, Below wr.heap.size wr V → Us[j + 1].at V b (o + (j + 1) * 2) ∧ (Us[j]'(by omega)).at V b (o + j * 2)) := Lib.hid fun V hV => ⟨Un.at_keep (w := wr) hg fun i => hV.cell (p := ⟨b, i, none⟩) hbw, Un.at_keep (w := wr) hg' fun i => hV.cell (p := ⟨b, i, none⟩) hbw⟩
          have HL1 := Lib.hid (fun V => lessU_any (Us[j]'(by omega)) Us[j + 1] V)
          have HL2 := Lib.hid (fun V => lessU_any Us[j + 1] (Us[j]'(by omega)) V)
          rw [F1] at HL1
          rw [F2] at HL2
          clear F1 F2 hg hg' HPW
          obtain ⟨x, hx⟩ : ∃ x, Us[j + 1] = x := ⟨_, rfl⟩
          obtain ⟨y, hy⟩ : ∃ y, (Us[j]'(by omega)) = y := ⟨_, rfl⟩
          rw [hx, hy] at HXU HL1 HL2
          clear hx hy
          unfold Un.at at HXU
          unfold Un.val at HL1 HL2
          go_wp2_with fail
          refine wp_region_held_drew (S := (fun V => Below wr.heap.size wr V)) (by kernel_rfl) (by exact (Below.refl _ _).drew) (fun hHeld => ?_)
          refine wpAnyH_take (i := 0) (oi := { dst := some 83, op := _, type := _, pos := _, after := _, guard := _ }) (v := ?_) rfl (by kernel_rfl) (by kernel_rfl) (by kernel_rfl) (fun _ _ _ h => h) (Or.inl ⟨by rfl, ?_⟩) hHeld ?_
          rotate_left
          · (intro w hSw; obtain ⟨⟨x0, x1⟩, y0, y1⟩ := HXU.out _ hSw; go_simp <;> with_reducible rfl)
          try simp only [Act.put, List.setIfInBounds_toArray, List.set_cons_zero, List.set_cons_succ]
          refine wpAnyH_take (i := 1) (oi := { dst := some 84, op := _, type := _, pos := _, after := _, guard := _ }) (v := ?_) rfl (by kernel_rfl) (by kernel_rfl) (by kernel_rfl) (fun _ _ _ h => h) (Or.inl ⟨by rfl, ?_⟩) hHeld ?_
          rotate_left
          · (intro w hSw; obtain ⟨⟨x0, x1⟩, y0, y1⟩ := HXU.out _ hSw; go_simp <;> with_reducible rfl)
          try simp only [Act.put, List.setIfInBounds_toArray, List.set_cons_zero, List.set_cons_succ]
          refine wpAnyH_take (i := 2) (oi := { dst := some 85, op := _, type := _, pos := _, after := _, guard := _ }) (v := ?_) rfl (by kernel_rfl) (by kernel_rfl) (by kernel_rfl) (fun _ _ _ h => h) (Or.inl ⟨by rfl, ?_⟩) hHeld ?_
          rotate_left
          · (intro w hSw; obtain ⟨⟨x0, x1⟩, y0, y1⟩ := HXU.out _ hSw; go_simp <;> with_reducible rfl)
          try simp only [Act.put, List.setIfInBounds_toArray, List.set_cons_zero, List.set_cons_succ]
          refine wpAnyH_take (i := 3) (oi := { dst := some 86, op := _, type := _, pos := _, after := _, guard := _ }) (v := ?_) rfl (by kernel_rfl) (by kernel_rfl) (by kernel_rfl) (fun _ _ _ h => h) (Or.inl ⟨by rfl, ?_⟩) hHeld ?_
          rotate_left
          · (intro w hSw; obtain ⟨⟨x0, x1⟩, y0, y1⟩ := HXU.out _ hSw; go_simp <;> with_reducible rfl)
          try simp only [Act.put, List.setIfInBounds_toArray, List.set_cons_zero, List.set_cons_succ]
          refine wpAnyH_take (i := 4) (oi := { dst := some 87, op := _, type := _, pos := _, after := _, guard := _ }) (v := ?_) rfl (by kernel_rfl) (by kernel_rfl) (by kernel_rfl) (fun _ _ _ h => h) (Or.inl ⟨by rfl, ?_⟩) hHeld ?_
          rotate_left
          · (intro w hSw; obtain ⟨⟨x0, x1⟩, y0, y1⟩ := HXU.out _ hSw; go_simp <;> with_reducible rfl)
          try simp only [Act.put, List.setIfInBounds_toArray, List.set_cons_zero, List.set_cons_succ]
          refine wpAnyH_take (i := 5) (oi := { dst := some 88, op := _, type := _, pos := _, after := _, guard := _ }) (v := ?_) rfl (by kernel_rfl) (by kernel_rfl) (by kernel_rfl) (fun _ _ _ h => h) (Or.inl ⟨by rfl, ?_⟩) hHeld ?_
          rotate_left
          · (intro w hSw; obtain ⟨⟨x0, x1⟩, y0, y1⟩ := HXU.out _ hSw; go_simp <;> with_reducible rfl)
          try simp only [Act.put, List.setIfInBounds_toArray, List.set_cons_zero, List.set_cons_succ]
          refine wpAnyH_take (i := 6) (oi := { dst := some 89, op := _, type := _, pos := _, after := _, guard := _ }) (v := ?_) rfl (by kernel_rfl) (by kernel_rfl) (by kernel_rfl) (fun _ _ _ h => h) (Or.inl ⟨by rfl, ?_⟩) hHeld ?_
          rotate_left
          · (intro w hSw; obtain ⟨⟨x0, x1⟩, y0, y1⟩ := HXU.out _ hSw; go_simp <;> with_reducible rfl)
          try simp only [Act.put, List.setIfInBounds_toArray, List.set_cons_zero, List.set_cons_succ]
          refine wpAnyH_take (i := 7) (oi := { dst := some 90, op := _, type := _, pos := _, after := _, guard := _ }) (v := ?_) rfl (by kernel_rfl) (by kernel_rfl) (by kernel_rfl) (fun _ _ _ h => h) (Or.inl ⟨by rfl, ?_⟩) hHeld ?_
          rotate_left
          · (intro w hSw; obtain ⟨⟨x0, x1⟩, y0, y1⟩ := HXU.out _ hSw; go_simp <;> with_reducible rfl)
          try simp only [Act.put, List.setIfInBounds_toArray, List.set_cons_zero, List.set_cons_succ]
          refine wpAnyH_take (i := 8) (oi := { dst := some 91, op := _, type := _, pos := _, after := _, guard := _ }) (v := ?_) rfl (by kernel_rfl) (by kernel_rfl) (by kernel_rfl) (fun _ _ _ h => h) (Or.inl ⟨by rfl, ?_⟩) hHeld ?_
          rotate_left
          · (intro w hSw; obtain ⟨⟨x0, x1⟩, y0, y1⟩ := HXU.out _ hSw; go_simp <;> with_reducible rfl)
          try simp only [Act.put, List.setIfInBounds_toArray, List.set_cons_zero, List.set_cons_succ]
          refine wpAnyH_ready (rs := [9]) (by kernel_rfl) (by simp) ?_
          refine AllReadyH.cons (o := { dst := some 92, op := _, type := _, pos := _, after := _, guard := _ }) rfl (fun K hK => ?_) AllReadyH.nil
          go_simp
          refine (HL1.out _).mono ?_
          rintro e y9 ⟨rfl, hk9⟩
          have hKeep := since_step hHeld hk9
          go_wp2_with fail
          refine hK.out _ _ (by (try dsimp only); exact hKeep) (fun hHeld => ?_)
          clear hK K hKeep
          try simp only [Act.put, List.setIfInBounds_toArray, List.set_cons_zero, List.set_cons_succ]
          refine wpAnyH_take (i := 10) (oi := { dst := some 93, op := _, type := _, pos := _, after := _, guard := _ }) (v := ?_) rfl (by kernel_rfl) (by kernel_rfl) (by kernel_rfl) (fun _ _ _ h => h) (Or.inl ⟨by rfl, ?_⟩) hHeld ?_
          rotate_left
          · (intro w hSw; obtain ⟨⟨x0, x1⟩, y0, y1⟩ := HXU.out _ hSw; go_simp <;> with_reducible rfl)
          try simp only [Act.put, List.setIfInBounds_toArray, List.set_cons_zero, List.set_cons_succ]
          refine wpAnyH_take (i := 11) (oi := { dst := some 94, op := _, type := _, pos := _, after := _, guard := _ }) (v := ?_) rfl (by kernel_rfl) (by kernel_rfl) (by kernel_rfl) (fun _ _ _ h => h) (Or.inl ⟨by rfl, ?_⟩) hHeld ?_
          rotate_left
          · (intro w hSw; obtain ⟨⟨x0, x1⟩, y0, y1⟩ := HXU.out _ hSw; go_simp <;> with_reducible rfl)
          try simp only [Act.put, List.setIfInBounds_toArray, List.set_cons_zero, List.set_cons_succ]
          refine wpAnyH_take (i := 12) (oi := { dst := some 95, op := _, type := _, pos := _, after := _, guard := _ }) (v := ?_) rfl (by kernel_rfl) (by kernel_rfl) (by kernel_rfl) (fun _ _ _ h => h) (Or.inl ⟨by rfl, ?_⟩) hHeld ?_
          rotate_left
          · (intro w hSw; obtain ⟨⟨x0, x1⟩, y0, y1⟩ := HXU.out _ hSw; go_simp <;> with_reducible rfl)
          try simp only [Act.put, List.setIfInBounds_toArray, List.set_cons_zero, List.set_cons_succ]
          refine wpAnyH_take (i := 13) (oi := { dst := some 96, op := _, type := _, pos := _, after := _, guard := _ }) (v := ?_) rfl (by kernel_rfl) (by kernel_rfl) (by kernel_rfl) (fun _ _ _ h => h) (Or.inl ⟨by rfl, ?_⟩) hHeld ?_
          rotate_left
          · (intro w hSw; obtain ⟨⟨x0, x1⟩, y0, y1⟩ := HXU.out _ hSw; go_simp <;> with_reducible rfl)
          try simp only [Act.put, List.setIfInBounds_toArray, List.set_cons_zero, List.set_cons_succ]
          refine wpAnyH_take (i := 14) (oi := { dst := some 97, op := _, type := _, pos := _, after := _, guard := _ }) (v := ?_) rfl (by kernel_rfl) (by kernel_rfl) (by kernel_rfl) (fun _ _ _ h => h) (Or.inl ⟨by rfl, ?_⟩) hHeld ?_
          rotate_left
          · (intro w hSw; obtain ⟨⟨x0, x1⟩, y0, y1⟩ := HXU.out _ hSw; go_simp <;> with_reducible rfl)
          try simp only [Act.put, List.setIfInBounds_toArray, List.set_cons_zero, List.set_cons_succ]
          refine wpAnyH_take (i := 15) (oi := { dst := some 98, op := _, type := _, pos := _, after := _, guard := _ }) (v := ?_) rfl (by kernel_rfl) (by kernel_rfl) (by kernel_rfl) (fun _ _ _ h => h) (Or.inl ⟨by rfl, ?_⟩) hHeld ?_
          rotate_left
          · (intro w hSw; obtain ⟨⟨x0, x1⟩, y0, y1⟩ := HXU.out _ hSw; go_simp <;> with_reducible rfl)
          try simp only [Act.put, List.setIfInBounds_toArray, List.set_cons_zero, List.set_cons_succ]
          refine wpAnyH_take (i := 16) (oi := { dst := some 99, op := _, type := _, pos := _, after := _, guard := _ }) (v := ?_) rfl (by kernel_rfl) (by kernel_rfl) (by kernel_rfl) (fun _ _ _ h => h) (Or.inl ⟨by rfl, ?_⟩) hHeld ?_
          rotate_left
          · (intro w hSw; obtain ⟨⟨x0, x1⟩, y0, y1⟩ := HXU.out _ hSw; go_simp <;> with_reducible rfl)
          try simp only [Act.put, List.setIfInBounds_toArray, List.set_cons_zero, List.set_cons_succ]
          refine wpAnyH_take (i := 17) (oi := { dst := some 100, op := _, type := _, pos := _, after := _, guard := _ }) (v := ?_) rfl (by kernel_rfl) (by kernel_rfl) (by kernel_rfl) (fun _ _ _ h => h) (Or.inl ⟨by rfl, ?_⟩) hHeld ?_
          rotate_left
          · (intro w hSw; obtain ⟨⟨x0, x1⟩, y0, y1⟩ := HXU.out _ hSw; go_simp <;> with_reducible rfl)
          try simp only [Act.put, List.setIfInBounds_toArray, List.set_cons_zero, List.set_cons_succ]
          refine wpAnyH_take (i := 18) (oi := { dst := some 101, op := _, type := _, pos := _, after := _, guard := _ }) (v := ?_) rfl (by kernel_rfl) (by kernel_rfl) (by kernel_rfl) (fun _ _ _ h => h) (Or.inl ⟨by rfl, ?_⟩) hHeld ?_
          rotate_left
          · (intro w hSw; obtain ⟨⟨x0, x1⟩, y0, y1⟩ := HXU.out _ hSw; go_simp <;> with_reducible rfl)
          try simp only [Act.put, List.setIfInBounds_toArray, List.set_cons_zero, List.set_cons_succ]
          refine wpAnyH_take (i := 19) (oi := { dst := some 102, op := _, type := _, pos := _, after := _, guard := _ }) (v := ?_) rfl (by kernel_rfl) (by kernel_rfl) (by kernel_rfl) (fun _ _ _ h => h) (Or.inl ⟨by rfl, ?_⟩) hHeld ?_
          rotate_left
          · (intro w hSw; obtain ⟨⟨x0, x1⟩, y0, y1⟩ := HXU.out _ hSw; go_simp <;> with_reducible rfl)
          try simp only [Act.put, List.setIfInBounds_toArray, List.set_cons_zero, List.set_cons_succ]
          refine wpAnyH_take (i := 20) (oi := { dst := some 103, op := _, type := _, pos := _, after := _, guard := _ }) (v := ?_) rfl (by kernel_rfl) (by kernel_rfl) (by kernel_rfl) (fun _ _ _ h => h) (Or.inl ⟨by rfl, ?_⟩) hHeld ?_
          rotate_left
          · (intro w hSw; obtain ⟨⟨x0, x1⟩, y0, y1⟩ := HXU.out _ hSw; go_simp <;> with_reducible rfl)
          try simp only [Act.put, List.setIfInBounds_toArray, List.set_cons_zero, List.set_cons_succ]
          refine wpAnyH_ready (rs := [21]) (by kernel_rfl) (by simp) ?_
          refine AllReadyH.cons (o := { dst := some 104, op := _, type := _, pos := _, after := _, guard := _ }) rfl (fun K hK => ?_) AllReadyH.nil
          go_simp
          refine (HL2.out _).mono ?_
          rintro e y21 ⟨rfl, hk21⟩
          have hKeep := since_step hHeld hk21
          go_wp2_with fail
          refine hK.out _ _ (by (try dsimp only); exact hKeep) (fun hHeld => ?_)
          clear hK K hKeep
          try simp only [Act.put, List.setIfInBounds_toArray, List.set_cons_zero, List.set_cons_succ]
          refine wpAnyH_take (i := 22) (oi := { dst := some 105, op := _, type := _, pos := _, after := _, guard := _ }) (v := ?_) rfl (by kernel_rfl) (by kernel_rfl) (by kernel_rfl) (fun _ _ _ h => h) (Or.inl ⟨by rfl, ?_⟩) hHeld ?_
          rotate_left
          · (intro w hSw; obtain ⟨⟨x0, x1⟩, y0, y1⟩ := HXU.out _ hSw; go_simp <;> with_reducible rfl)
          try simp only [Act.put, List.setIfInBounds_toArray, List.set_cons_zero, List.set_cons_succ]
          refine wpAnyH_done (by kernel_rfl) ?_ _
          have hB4 := hB2.trans (hHeld.mono hB2.size)
          go_wp2_with fail
          go_roundw
          case rel => exact ⟨j + 1 + 1, by omega, .inl (by omega), by go_num, hB4⟩
          case measure => simp [intOf]; omega
        · have hge : ¬ ((k : Int) < (Us.length : Int)) := by omega
          go_wp2_with fail
          refine (lives15_any _).mono ?_
          rintro e v1 ⟨rfl, hb⟩
          have hB3 := since_step hBw2 hb
          go_wp2_with fail
          go_ret
          exact ⟨rfl, hB3⟩
end Go.Proofs.Ytpnaihnmmnjacaa
