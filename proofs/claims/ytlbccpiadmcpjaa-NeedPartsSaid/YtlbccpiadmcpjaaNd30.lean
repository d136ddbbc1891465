import Derived.BigQuiet
import Derived.Test.YtlbccpiadmcpjaaNd29
section
namespace Go.Proofs.Ytlbccpiadmcpjaa
open Go.ChangeShapes Go.WideShapes Go.ChangeAt Go.RowKit
set_option linter.unusedVariables false
set_option linter.unusedSimpArgs false

theorem cntK_le (P : Un → List Un) (z : Un) (ms : List Un) (k : Nat) : cntK P z ms k ≤ cntK P z ms ms.length := by
  unfold cntK
  rw [List.take_length]
  conv => rhs; rw [← List.take_append_drop k ms, List.map_append, List.sum_append]
  omega
theorem count_take (l : List Un) (z : Un) (j : Nat) : (l.take j).count z ≤ l.count z := (List.take_sublist j l).count_le z
theorem UB.set2 {w : World} {g : Nat} (h : UB w g) (a b : Value) : Bk ((w.setCell ⟨g, 0, none⟩ a).setCell ⟨g, 1, none⟩ b) g #[a, b] := by
  obtain ⟨h0, h1, h2, _⟩ := h.got
  have hk := h.1.2
  refine ⟨by simpa using h0, fun o => ?_⟩
  rcases o with _ | _ | o
  · simp [cell_set, h1, h2]
  · simp [cell_set, h1, h2]
  · have := hk (o + 1 + 1)
    simp [cell_set] at this ⊢
    exact this
theorem rd_acct {w : World} {a : Array Value} (h : Rd w (.cat (.int .i64) (.cat (.int .i64) (.cat (.int .i64) (.cat (.sl (.int .i64)) .nil)))) a.toList) :
    ∃ (id mem kind : Int) (A : Option Addr) (cap : Nat) (L : List Nt), a = #[.int .i64 id, .int .i64 mem, .int .i64 kind, .slice A L.length cap] ∧ L.length ≤ cap ∧ cap ≤ maxLen ∧ Sl w A (rc Nt.cells L) := by
  obtain ⟨p, q, e, ⟨id, rfl, _⟩, ⟨p2, q2, rfl, ⟨mem, rfl, _⟩, ⟨p3, q3, rfl, ⟨kind, rfl, _⟩, ⟨p4, q4, rfl, h4, rfl⟩⟩⟩⟩ := h
  obtain ⟨A, n, c, rows, rfl, h1, h2, h3, h5, h6⟩ := _root_.id h4
  obtain ⟨l, rfl, _, _, hs⟩ := rd_ints (w := w) (k := .i64) (A := A) (n := n) (c := c) h4
  refine ⟨id, mem, kind, A, c, l.map Nt.mk, ?_, by simpa using h1, h2, ?_⟩
  · cases a
    simpa using e
  · have e2 : ∀ l : List Int, rc Nt.cells (l.map Nt.mk) = ints .i64 l := by
      intro l
      induction l with
      | nil => rfl
      | cons x l ih => rw [List.map_cons, rc_cons, ih]; rfl
    rw [e2]; exact hs.1
set_option maxHeartbeats 16000000 in
set_option maxRecDepth 100000 in
theorem walk_NeedParts (a0 : Array Value) (w : World) (w0 : Rd w (.cat (.int .i64) (.cat (.int .i64) (.cat (.int .i64) (.cat (.sl (.int .i64)) .nil)))) a0.toList) :
    Calls Try.prog 3 #[.agg a0] w fun e w' => e = .returned (.bool true) ∧ Below w.heap.size w w' := by
  obtain ⟨id, mem, kind, A, cap, L0, rfl, hc, hcm, hs⟩ := rd_acct w0
  clear w0
  have hB0 := since_alloc (Below.refl _ w) (.cells #[.int .i64 id, .int .i64 mem, .int .i64 kind, .slice A L0.length cap] 24)
  have X0 := AX.new w id mem kind A L0.length cap 24
  have HSH := short25_any id mem kind A cap L0 (w.alloc (.cells #[.int .i64 id, .int .i64 mem, .int .i64 kind, .slice A L0.length cap] 24)) hc hcm (hs.below hB0)
  obtain ⟨L, hL⟩ : ∃ L, L0.take 20 = L := ⟨_, rfl⟩
  have hl : L.length ≤ 20 := by rw [← hL]; simp; omega
  have HSL : Hid (∀ V, Sl V A (rc Nt.cells L0) → Sl V A (rc Nt.cells L)) := Lib.hid fun V h => by
    have h := h.take (20 * 1)
    rw [rc_take Nt.len, hL] at h
    exact h
  rw [hL] at HSH
  have HSH := Lib.hid HSH
  clear hL
  go_enter Try.func3, Try.ntmps3
  go_upto_region 1 with fail
  generalize hWW : w.alloc (.cells #[.int .i64 id, .int .i64 mem, .int .i64 kind, .slice A L0.length cap] 24) = W0 at *
  clear hWW
  obtain ⟨hx, ⟨p0, p1, p2, p3⟩, ⟨q0, q1, q2, q3⟩⟩ := X0.got
  go_wp2_with fail
  refine HSH.out.mono ?_
  rintro e w1 ⟨rfl, hb⟩
  have hB1 := since_step hB0 hb
  have X1 := X0.below hb
  clear p0 p1 p2 p3 q0 q1 q2 q3 hb hx X0 hB0
  obtain ⟨hx, ⟨p0, p1, p2, p3⟩, ⟨q0, q1, q2, q3⟩⟩ := X1.got
  have K := X1.set4 (.int .i64 id) (.int .i64 mem) (.int .i64 kind) (.slice A L.length cap)
  have hB := Below.setCell (Below.setCell (Below.setCell (Below.setCell hB1 (p := ⟨w.heap.size, 0, none⟩) (Nat.le_refl _) (.int .i64 id)) (p := ⟨w.heap.size, 1, none⟩) (Nat.le_refl _) (.int .i64 mem)) (p := ⟨w.heap.size, 2, none⟩) (Nat.le_refl _) (.int .i64 kind)) (p := ⟨w.heap.size, 3, none⟩) (Nat.le_refl _) (.slice A L.length cap)
  have hS := HSL.out _ (hs.below hB)
  go_upto_region 2 with fail
  generalize hWW : (((w1.setCell ⟨w.heap.size, 0, none⟩ (.int .i64 id)).setCell ⟨w.heap.size, 1, none⟩ (.int .i64 mem)).setCell ⟨w.heap.size, 2, none⟩ (.int .i64 kind)).setCell ⟨w.heap.size, 3, none⟩ (.slice A L.length cap) = W at *
  clear hWW p0 p1 p2 p3 q0 q1 q2 q3 X1 hB1 hs HSL hx HSH
  have HQ : Hid (∀ V, Below W.heap.size W V → V.cell? ⟨w.heap.size, 0, none⟩ = some (.int .i64 id) ∧ V.cell? ⟨w.heap.size, 1, none⟩ = some (.int .i64 mem) ∧ V.cell? ⟨w.heap.size, 2, none⟩ = some (.int .i64 kind) ∧ V.cell? ⟨w.heap.size, 3, none⟩ = some (.slice A L.length cap)) := Lib.hid fun V h => ⟨(K.below h).2 0, (K.below h).2 1, (K.below h).2 2, (K.below h).2 3⟩
  have HB : Hid (∀ V, Below W.heap.size W V → Below w.heap.size w V) := Lib.hid fun V h => hB.trans (h.mono hB.size)
  have HIS := ris_any id mem kind A cap L W (by omega) hS
  have HRU := Lib.hid (fun V (h : Below W.heap.size W V) => runits_any id mem kind A cap L V (by omega) (hS.below h))
  have HNU := Lib.hid (fun V (h : Below W.heap.size W V) => nunits_any id mem kind A cap L V (by omega) (hS.below h))
  have HUN := Lib.hid (fun u V (h : Below W.heap.size W V) => nunit_any id mem kind A cap L u V (by omega) (hS.below h))
  have HPA := Lib.hid (fun u V (h : Below W.heap.size W V) => nparts_any id mem kind A cap L u V (by omega) (hS.below h))
  have HLV := Lib.hid (fun V => lives25_any V)
  have hC := Below.refl W.heap.size W
  clear K hS hB
  obtain ⟨p0, p1, p2, p3⟩ := HQ.out _ hC
  cases hi : isE id mem kind L with
  | false =>
    rw [hi] at HIS
    have HIS := Lib.hid HIS
    clear hi
    go_wp2_with fail
    refine (HIS.out).mono ?_
    rintro e y0 ⟨rfl, hb⟩
    have hC := since_step hC hb
    clear p0 p1 p2 p3 hb
    obtain ⟨p0, p1, p2, p3⟩ := HQ.out _ hC
    go_wp2_with fail
    refine (HLV.out _).mono ?_
    rintro e zz ⟨rfl, hb⟩
    have hE := since_step hC hb
    go_wp2_with fail
    go_ret
    exact ⟨rfl, HB.out _ hE⟩
  | true =>
    have hok := isE_okC hi
    rw [hi] at HIS
    have HIS := Lib.hid HIS
    have HUOK := Lib.hid (fun z (hz : z ∈ unL id kind L) => unit_ok hz)
    have HTOT := Lib.hid (fun z (hz : z ∈ unL id kind L) => cnt_total hok hz)
    have HPU := Lib.hid (fun z m (hz : z ∈ unL id kind L) (hm : m ∈ nuL id kind L) (hp : z ∈ partsL id kind L m) => parts_unit hz hm hp)
    have hul := unL_len id kind L
    have hnl := nuL_len id kind L
    have hPN := partsL_len id kind L
    clear hi hok
    generalize unL id kind L = us at *
    generalize nuL id kind L = ms at *
    generalize partsL id kind L = P at *
    generalize unitU id kind L = UF at *
    go_wp2_with fail
    refine (HIS.out).mono ?_
    rintro e y0 ⟨rfl, hb⟩
    have hC := since_step hC hb
    clear p0 p1 p2 p3 hb
    obtain ⟨p0, p1, p2, p3⟩ := HQ.out _ hC
    go_wp2_with fail
    refine (HRU.out _ hC).mono ?_
    rintro e y1 ⟨⟨A1, c1, rfl, o1⟩, hb⟩
    have hC := since_step hC hb
    have s1 := Sl.of_own o1
    clear p0 p1 p2 p3 hb
    obtain ⟨p0, p1, p2, p3⟩ := HQ.out _ hC
    go_wp2_with fail
    refine (HNU.out _ hC).mono ?_
    rintro e y2 ⟨⟨A2, c2, rfl, o2⟩, hb⟩
    have hC := since_step hC hb
    have s1 := s1.below hb
    have s2 := Sl.of_own o2
    clear p0 p1 p2 p3 hb
    obtain ⟨p0, p1, p2, p3⟩ := HQ.out _ hC
    have HS1 : Hid (∀ V, Below y2.heap.size y2 V → Sl V A1 (rc Un.cells us)) := Lib.hid fun V h => s1.below h
    have HS2 : Hid (∀ V, Below y2.heap.size y2 V → Sl V A2 (rc Un.cells ms)) := Lib.hid fun V h => s2.below h
    have HC2 : Hid (∀ V, Below y2.heap.size y2 V → Below W.heap.size W V) := Lib.hid fun V h => hC.trans (h.mono hC.size)
    clear s1 s2 o1 o2 hC p0 p1 p2 p3 HIS HRU HNU
    go_wp2_with fail
    go_loopw [5] (fun iv wr => ∃ k : Nat, k ≤ us.length ∧ iv = .int .i64 k ∧ Below y2.heap.size y2 wr) (fun iv _ => us.length - (intOf iv).toNat)
    case atStart => exact ⟨0, by omega, rfl, Below.refl _ _⟩
    case round =>
      obtain ⟨k, hk, rfl, hB⟩ := hrel
      by_cases hlt : k < us.length
      · have hlk : (k : Int) < (us.length : Int) := by omega
        have hge : (0 : Int) ≤ (k : Int) := by omega
        obtain ⟨b, o, rfl, hbw, hg⟩ := (HS1.out _ (Below.refl _ _)).un hlt
        have hz := List.getElem_mem hlt
        generalize us[k] = z at *
        obtain ⟨za, zc⟩ := z
        have HZ0 : Hid (∀ V, Below y2.heap.size y2 V → (⟨za, zc⟩ : Un).at V b (o + k * 2)) := Lib.hid fun V hV => Un.at_keep hg fun i => hV.cell (p := ⟨b, i, none⟩) hbw
        have hub := HUOK.out _ hz
        have hT := HTOT.out _ hz
        have hPz := fun m => HPU.out _ m hz
        have HUz := HUN.out ⟨za, zc⟩
        obtain ⟨⟨⟨ua, uc⟩, ub⟩, hU⟩ : ∃ r, UF ⟨za, zc⟩ = r := ⟨_, rfl⟩
        simp only [hU] at hub hPz HUz
        subst hub
        unfold Un.val at HUz
        simp only at HUz
        have HUz := Lib.hid HUz
        have HPz := Lib.hid hPz
        have HC3 : Hid (∀ V, Below wr.heap.size wr V → Below W.heap.size W V) := Lib.hid fun V h => HC2.out _ (hB.trans (h.mono hB.size))
        have HQ1 : Hid (∀ V, Below wr.heap.size wr V → (V.cell? ⟨w.heap.size, 0, none⟩ = some (.int .i64 id) ∧ V.cell? ⟨w.heap.size, 1, none⟩ = some (.int .i64 mem) ∧ V.cell? ⟨w.heap.size, 2, none⟩ = some (.int .i64 kind) ∧ V.cell? ⟨w.heap.size, 3, none⟩ = some (.slice A L.length cap)) ∧ V.cell? ⟨b, o + k * 2, none⟩ = some (.int .i64 za) ∧ V.cell? ⟨b, o + k * 2 + 1, none⟩ = some (.int .i64 zc)) := Lib.hid fun V h => ⟨HQ.out _ (HC3.out _ h), HZ0.out _ (hB.trans (h.mono hB.size))⟩
        clear hU hPz hg hz
        go_upto_region 10 with fail
        go_cut [7, 8] (fun s7 s8 wx => ∃ g : Nat, s7 = .pointer (some ⟨g, 0, none⟩) ∧ s8 = .bool true ∧ Bk wx g #[.int .i64 ua, .int .i64 uc] ∧ Below y2.heap.size y2 wx)
        case first =>
          refine wp_region_held_drew (S := (fun V => Below wr.heap.size wr V)) (by kernel_rfl) (by exact (Below.refl _ _).drew) (fun hHeld => ?_)
          generalize wr.drew = VE at *
          refine wpAnyH_take (i := 0) (oi := { dst := some 29, op := _, type := _, pos := _, after := _, guard := _ }) (v := ?_) rfl (by kernel_rfl) (by kernel_rfl) (by kernel_rfl) (fun _ _ _ h => h) (Or.inl ⟨by rfl, ?_⟩) hHeld ?_
          rotate_left
          · (intro w hSw; obtain ⟨⟨p0, p1, p2, p3⟩, z0, z1⟩ := HQ1.out _ (hSw); go_simp <;> with_reducible rfl)
          try simp only [Act.put, List.setIfInBounds_toArray, List.set_cons_zero, List.set_cons_succ]
          refine wpAnyH_take (i := 1) (oi := { dst := some 30, op := _, type := _, pos := _, after := _, guard := _ }) (v := ?_) rfl (by kernel_rfl) (by kernel_rfl) (by kernel_rfl) (fun _ _ _ h => h) (Or.inl ⟨by rfl, ?_⟩) hHeld ?_
          rotate_left
          · (intro w hSw; clear hSw; go_simp <;> with_reducible rfl)
          try simp only [Act.put, List.setIfInBounds_toArray, List.set_cons_zero, List.set_cons_succ]
          refine wpAnyH_take (i := 2) (oi := { dst := some 31, op := _, type := _, pos := _, after := _, guard := _ }) (v := ?_) rfl (by kernel_rfl) (by kernel_rfl) (by kernel_rfl) (fun _ _ _ h => h) (Or.inl ⟨by rfl, ?_⟩) hHeld ?_
          rotate_left
          · (intro w hSw; clear hSw; go_simp <;> with_reducible rfl)
          try simp only [Act.put, List.setIfInBounds_toArray, List.set_cons_zero, List.set_cons_succ]
          refine wpAnyH_take (i := 3) (oi := { dst := some 32, op := _, type := _, pos := _, after := _, guard := _ }) (v := ?_) rfl (by kernel_rfl) (by kernel_rfl) (by kernel_rfl) (fun _ _ _ h => h) (Or.inl ⟨by rfl, ?_⟩) hHeld ?_
          rotate_left
          · (intro w hSw; clear hSw; go_simp <;> with_reducible rfl)
          try simp only [Act.put, List.setIfInBounds_toArray, List.set_cons_zero, List.set_cons_succ]
          refine wpAnyH_take (i := 4) (oi := { dst := some 33, op := _, type := _, pos := _, after := _, guard := _ }) (v := ?_) rfl (by kernel_rfl) (by kernel_rfl) (by kernel_rfl) (fun _ _ _ h => h) (Or.inl ⟨by rfl, ?_⟩) hHeld ?_
          rotate_left
          · (intro w hSw; obtain ⟨⟨p0, p1, p2, p3⟩, z0, z1⟩ := HQ1.out _ (hSw); go_simp <;> with_reducible rfl)
          try simp only [Act.put, List.setIfInBounds_toArray, List.set_cons_zero, List.set_cons_succ]
          refine wpAnyH_ready (rs := [5, 9]) (by kernel_rfl) (by simp) ?_
          refine AllReadyH.cons (o := { dst := some 34, op := _, type := _, pos := _, after := _, guard := _ }) rfl (fun K hK => ?_) (AllReadyH.cons (o := { dst := some 7, op := _, type := _, pos := _, after := _, guard := _ }) rfl (fun K hK => ?_) AllReadyH.nil)
          · go_simp
            refine (HUz.out _ (HC3.out _ hHeld)).mono ?_
            rintro e x1 ⟨rfl, hk1⟩
            have hKeep := since_step hHeld hk1
            clear hk1
            go_wp2_with fail
            refine hK.out _ _ (by (try dsimp only); exact hKeep) (fun hHeld => ?_)
            clear hK K hKeep
            try simp only [Act.put, List.setIfInBounds_toArray, List.set_cons_zero, List.set_cons_succ]
            refine wpAnyH_take (i := 6) (oi := { dst := some 28, op := _, type := _, pos := _, after := _, guard := _ }) (v := ?_) rfl (by kernel_rfl) (by kernel_rfl) (by kernel_rfl) (fun _ _ _ h => h) (Or.inl ⟨by rfl, ?_⟩) hHeld ?_
            rotate_left
            · (intro w hSw; clear hSw; go_simp <;> with_reducible rfl)
            try simp only [Act.put, List.setIfInBounds_toArray, List.set_cons_zero, List.set_cons_succ]
            refine wpAnyH_take (i := 7) (oi := { dst := some 35, op := _, type := _, pos := _, after := _, guard := _ }) (v := ?_) rfl (by kernel_rfl) (by kernel_rfl) (by kernel_rfl) (fun _ _ _ h => h) (Or.inl ⟨by rfl, ?_⟩) hHeld ?_
            rotate_left
            · (intro w hSw; clear hSw; go_simp <;> with_reducible rfl)
            try simp only [Act.put, List.setIfInBounds_toArray, List.set_cons_zero, List.set_cons_succ]
            refine wpAnyH_take (i := 8) (oi := { dst := some 36, op := _, type := _, pos := _, after := _, guard := _ }) (v := ?_) rfl (by kernel_rfl) (by kernel_rfl) (by kernel_rfl) (fun _ _ _ h => h) (Or.inl ⟨by rfl, ?_⟩) hHeld ?_
            rotate_left
            · (intro w hSw; clear hSw; go_simp <;> with_reducible rfl)
            try simp only [Act.put, List.setIfInBounds_toArray, List.set_cons_zero, List.set_cons_succ]
            refine wpAnyH_ready (rs := [9]) (by kernel_rfl) (by simp) ?_
            refine AllReadyH.cons (o := { dst := some 7, op := _, type := _, pos := _, after := _, guard := _ }) rfl (fun K hK => ?_) AllReadyH.nil
            have hHd := hHeld
            obtain ⟨⟨p0, p1, p2, p3⟩, z0, z1⟩ := HQ1.out _ (hHd)
            have hHp := hHeld
            have X := UB.new x1 31
            have hgs : wr.heap.size ≤ x1.heap.size := hHeld.size
            have hKeep := since_alloc hHeld (.cells #[.int .i64 0, .int .i64 0] 31)
            go_simp
            refine hK.out _ _ (by (try dsimp only); exact hKeep) (fun hHeld => ?_)
            clear hK K hKeep
            try simp only [Act.put, List.setIfInBounds_toArray, List.set_cons_zero, List.set_cons_succ]
            refine wpAnyH_ready (rs := [10]) (by kernel_rfl) (by simp) ?_
            refine AllReadyH.cons (o := { dst := none, op := _, type := _, pos := _, after := _, guard := _ }) rfl (fun K hK => ?_) AllReadyH.nil
            have hHd := hHeld
            obtain ⟨⟨p0, p1, p2, p3⟩, z0, z1⟩ := HQ1.out _ (hHd)
            obtain ⟨q0, q1, q2, q3, q4⟩ := X.got
            have E := Bk.new x1 #[.int .i64 ua, .int .i64 uc] 31
            have hKeep := since_alloc hHp (.cells #[.int .i64 ua, .int .i64 uc] 31)
            skip
            go_simp
            refine hK.out _ _ (by (try dsimp only); exact hKeep) (fun hHeld => ?_)
            clear hK K hKeep
            try simp only [Act.put, List.setIfInBounds_toArray, List.set_cons_zero, List.set_cons_succ]
            refine wpAnyH_take (i := 11) (oi := { dst := some 8, op := _, type := _, pos := _, after := _, guard := _ }) (v := ?_) rfl (by kernel_rfl) (by kernel_rfl) (by kernel_rfl) (fun _ _ _ h => h) (Or.inl ⟨by rfl, ?_⟩) hHeld ?_
            rotate_left
            · (intro w hSw; clear hSw; go_simp <;> with_reducible rfl)
            try simp only [Act.put, List.setIfInBounds_toArray, List.set_cons_zero, List.set_cons_succ]
            refine wpAnyH_done (by kernel_rfl) ?_ _
            go_wp2_with fail
            go_meet
            case rel => exact ⟨_, rfl, rfl, E, hB.trans (hHeld.mono hB.size)⟩
          · have hHd := hHeld
            obtain ⟨⟨p0, p1, p2, p3⟩, z0, z1⟩ := HQ1.out _ (hHd)
            have hHp := hHeld
            have X := UB.new VE 31
            have hgs : wr.heap.size ≤ VE.heap.size := hHeld.size
            have hKeep := since_alloc hHeld (.cells #[.int .i64 0, .int .i64 0] 31)
            go_simp
            refine hK.out _ _ (by (try dsimp only); exact hKeep) (fun hHeld => ?_)
            clear hK K hKeep
            try simp only [Act.put, List.setIfInBounds_toArray, List.set_cons_zero, List.set_cons_succ]
            refine wpAnyH_ready (rs := [5]) (by kernel_rfl) (by simp) ?_
            refine AllReadyH.cons (o := { dst := some 34, op := _, type := _, pos := _, after := _, guard := _ }) rfl (fun K hK => ?_) AllReadyH.nil
            go_simp
            refine (HUz.out _ (HC3.out _ hHeld)).mono ?_
            rintro e x1 ⟨rfl, hk1⟩
            have hKeep := since_step hHeld hk1
            have X := X.below hk1
            clear hk1
            go_wp2_with fail
            refine hK.out _ _ (by (try dsimp only); exact hKeep) (fun hHeld => ?_)
            clear hK K hKeep
            try simp only [Act.put, List.setIfInBounds_toArray, List.set_cons_zero, List.set_cons_succ]
            refine wpAnyH_take (i := 6) (oi := { dst := some 28, op := _, type := _, pos := _, after := _, guard := _ }) (v := ?_) rfl (by kernel_rfl) (by kernel_rfl) (by kernel_rfl) (fun _ _ _ h => h) (Or.inl ⟨by rfl, ?_⟩) hHeld ?_
            rotate_left
            · (intro w hSw; clear hSw; go_simp <;> with_reducible rfl)
            try simp only [Act.put, List.setIfInBounds_toArray, List.set_cons_zero, List.set_cons_succ]
            refine wpAnyH_take (i := 7) (oi := { dst := some 35, op := _, type := _, pos := _, after := _, guard := _ }) (v := ?_) rfl (by kernel_rfl) (by kernel_rfl) (by kernel_rfl) (fun _ _ _ h => h) (Or.inl ⟨by rfl, ?_⟩) hHeld ?_
            rotate_left
            · (intro w hSw; clear hSw; go_simp <;> with_reducible rfl)
            try simp only [Act.put, List.setIfInBounds_toArray, List.set_cons_zero, List.set_cons_succ]
            refine wpAnyH_take (i := 8) (oi := { dst := some 36, op := _, type := _, pos := _, after := _, guard := _ }) (v := ?_) rfl (by kernel_rfl) (by kernel_rfl) (by kernel_rfl) (fun _ _ _ h => h) (Or.inl ⟨by rfl, ?_⟩) hHeld ?_
            rotate_left
            · (intro w hSw; clear hSw; go_simp <;> with_reducible rfl)
            try simp only [Act.put, List.setIfInBounds_toArray, List.set_cons_zero, List.set_cons_succ]
            refine wpAnyH_ready (rs := [10]) (by kernel_rfl) (by simp) ?_
            refine AllReadyH.cons (o := { dst := none, op := _, type := _, pos := _, after := _, guard := _ }) rfl (fun K hK => ?_) AllReadyH.nil
            have hHd := hHeld
            obtain ⟨⟨p0, p1, p2, p3⟩, z0, z1⟩ := HQ1.out _ (hHd)
            obtain ⟨q0, q1, q2, q3, q4⟩ := X.got
            have E := X.set2 (.int .i64 ua) (.int .i64 uc)
            have hKeep := Below.setCell (Below.setCell hHeld (p := ⟨VE.heap.size, 0, none⟩) hgs (.int .i64 ua)) (p := ⟨VE.heap.size, 1, none⟩) hgs (.int .i64 uc)
            skip
            go_simp
            refine hK.out _ _ (by (try dsimp only); exact hKeep) (fun hHeld => ?_)
            clear hK K hKeep
            try simp only [Act.put, List.setIfInBounds_toArray, List.set_cons_zero, List.set_cons_succ]
            refine wpAnyH_take (i := 11) (oi := { dst := some 8, op := _, type := _, pos := _, after := _, guard := _ }) (v := ?_) rfl (by kernel_rfl) (by kernel_rfl) (by kernel_rfl) (fun _ _ _ h => h) (Or.inl ⟨by rfl, ?_⟩) hHeld ?_
            rotate_left
            · (intro w hSw; clear hSw; go_simp <;> with_reducible rfl)
            try simp only [Act.put, List.setIfInBounds_toArray, List.set_cons_zero, List.set_cons_succ]
            refine wpAnyH_done (by kernel_rfl) ?_ _
            go_wp2_with fail
            go_meet
            case rel => exact ⟨_, rfl, rfl, E, hB.trans (hHeld.mono hB.size)⟩
        case rest =>
          obtain ⟨g, rfl, rfl, KU, hB4⟩ := hcut
          generalize wc = y4 at *
          have HB2 : Hid (∀ V, Below y4.heap.size y4 V → Below y2.heap.size y2 V) := Lib.hid fun V h => hB4.trans (h.mono hB4.size)
          have HZ1 : Hid (∀ V, Below y4.heap.size y4 V → (⟨za, zc⟩ : Un).at V b (o + k * 2)) := Lib.hid fun V h => HZ0.out _ (HB2.out _ h)
          clear hB4 hB HQ1 HC3
          go_wp2_with fail
          go_loopw [6, 8, 9] (fun nv ov iv wr => ∃ (j : Nat) (n : Int), j ≤ ms.length ∧ nv = .int .i64 n ∧ n = ((cntK P ⟨za, zc⟩ ms j : Nat) : Int) ∧ ov = .bool true ∧ iv = .int .i64 j ∧ Below y4.heap.size y4 wr) (fun _ _ iv _ => ms.length - (intOf iv).toNat)
          case atStart => exact ⟨0, 0, by omega, rfl, by rw [cntK_zero]; rfl, rfl, rfl, Below.refl _ _⟩
          case round =>
            obtain ⟨j, n, hj, rfl, hn, rfl, rfl, hB⟩ := hrel
            by_cases hlt : j < ms.length
            · have hlk : (j : Int) < (ms.length : Int) := by omega
              have hge : (0 : Int) ≤ (j : Int) := by omega
              obtain ⟨b2, o2, rfl, hbw, hg⟩ := (HS2.out _ (HB2.out _ hB)).un hlt
              have hcl := cntK_le P ⟨za, zc⟩ ms (j + 1)
              have hc1 := cntK_succ P ⟨za, zc⟩ ms hlt
              have HCN := Lib.hid hc1
              have hPm := HPz.out ms[j] (List.getElem_mem hlt)
              rw [hT] at hcl
              rw [hc1] at hcl
              clear hc1
              generalize ms[j] = m at *
              obtain ⟨ma, mc⟩ := m
              have HPv := HPA.out ⟨ma, mc⟩
              obtain ⟨pl, hpl⟩ : ∃ pl, P ⟨ma, mc⟩ = pl := ⟨_, rfl⟩
              rw [hpl] at hPm HCN hcl
              simp only [hpl] at HPv
              have hpn := hPN ⟨ma, mc⟩
              rw [hpl] at hpn
              have HPm := Lib.hid hPm
              clear hpl hPm
              unfold Un.val at HPv
              simp only at HPv
              have HPv := Lib.hid HPv
              obtain ⟨cn, hcn⟩ : ∃ cn, cntK P ⟨za, zc⟩ ms j = cn := ⟨_, rfl⟩
              rw [hcn] at hcl HCN hn
              clear hcn
              have HM0 : Hid (∀ V, Below wr.heap.size wr V → (⟨ma, mc⟩ : Un).at V b2 (o2 + j * 2)) := Lib.hid fun V hV => Un.at_keep hg fun i => hV.cell (p := ⟨b2, i, none⟩) hbw
              have HC4 : Hid (∀ V, Below wr.heap.size wr V → Below W.heap.size W V) := Lib.hid fun V h => HC2.out _ (HB2.out _ (hB.trans (h.mono hB.size)))
              have HQ2 : Hid (∀ V, Below wr.heap.size wr V → (V.cell? ⟨w.heap.size, 0, none⟩ = some (.int .i64 id) ∧ V.cell? ⟨w.heap.size, 1, none⟩ = some (.int .i64 mem) ∧ V.cell? ⟨w.heap.size, 2, none⟩ = some (.int .i64 kind) ∧ V.cell? ⟨w.heap.size, 3, none⟩ = some (.slice A L.length cap)) ∧ V.cell? ⟨b2, o2 + j * 2, none⟩ = some (.int .i64 ma) ∧ V.cell? ⟨b2, o2 + j * 2 + 1, none⟩ = some (.int .i64 mc)) := Lib.hid fun V h => ⟨HQ.out _ (HC4.out _ h), HM0.out _ h⟩
              have HZ2 : Hid (∀ V, Below wr.heap.size wr V → (⟨za, zc⟩ : Un).at V b (o + k * 2)) := Lib.hid fun V h => HZ1.out _ (hB.trans (h.mono hB.size))
              have HU2 : Hid (∀ V, Below wr.heap.size wr V → V.cell? ⟨g, 0, none⟩ = some (.int .i64 ua) ∧ V.cell? ⟨g, 1, none⟩ = some (.int .i64 uc)) := Lib.hid fun V h => ⟨(KU.below (hB.trans (h.mono hB.size))).2 0, (KU.below (hB.trans (h.mono hB.size))).2 1⟩
              clear HM0 hg
              go_wp2_with fail
              refine wp_region_held_drew (S := (fun V => Below wr.heap.size wr V)) (by kernel_rfl) (by exact (Below.refl _ _).drew) (fun hHeld => ?_)
              refine wpAnyH_take (i := 0) (oi := { dst := some 43, op := _, type := _, pos := _, after := _, guard := _ }) (v := ?_) rfl (by kernel_rfl) (by kernel_rfl) (by kernel_rfl) (fun _ _ _ h => h) (Or.inl ⟨by rfl, ?_⟩) hHeld ?_
              rotate_left
              · (intro w hSw; obtain ⟨⟨p0, p1, p2, p3⟩, m0, m1⟩ := HQ2.out _ (hSw); go_simp <;> with_reducible rfl)
              try simp only [Act.put, List.setIfInBounds_toArray, List.set_cons_zero, List.set_cons_succ]
              refine wpAnyH_take (i := 1) (oi := { dst := some 44, op := _, type := _, pos := _, after := _, guard := _ }) (v := ?_) rfl (by kernel_rfl) (by kernel_rfl) (by kernel_rfl) (fun _ _ _ h => h) (Or.inl ⟨by rfl, ?_⟩) hHeld ?_
              rotate_left
              · (intro w hSw; clear hSw; go_simp <;> with_reducible rfl)
              try simp only [Act.put, List.setIfInBounds_toArray, List.set_cons_zero, List.set_cons_succ]
              refine wpAnyH_take (i := 2) (oi := { dst := some 45, op := _, type := _, pos := _, after := _, guard := _ }) (v := ?_) rfl (by kernel_rfl) (by kernel_rfl) (by kernel_rfl) (fun _ _ _ h => h) (Or.inl ⟨by rfl, ?_⟩) hHeld ?_
              rotate_left
              · (intro w hSw; clear hSw; go_simp <;> with_reducible rfl)
              try simp only [Act.put, List.setIfInBounds_toArray, List.set_cons_zero, List.set_cons_succ]
              refine wpAnyH_take (i := 3) (oi := { dst := some 46, op := _, type := _, pos := _, after := _, guard := _ }) (v := ?_) rfl (by kernel_rfl) (by kernel_rfl) (by kernel_rfl) (fun _ _ _ h => h) (Or.inl ⟨by rfl, ?_⟩) hHeld ?_
              rotate_left
              · (intro w hSw; clear hSw; go_simp <;> with_reducible rfl)
              try simp only [Act.put, List.setIfInBounds_toArray, List.set_cons_zero, List.set_cons_succ]
              refine wpAnyH_take (i := 4) (oi := { dst := some 47, op := _, type := _, pos := _, after := _, guard := _ }) (v := ?_) rfl (by kernel_rfl) (by kernel_rfl) (by kernel_rfl) (fun _ _ _ h => h) (Or.inl ⟨by rfl, ?_⟩) hHeld ?_
              rotate_left
              · (intro w hSw; obtain ⟨⟨p0, p1, p2, p3⟩, m0, m1⟩ := HQ2.out _ (hSw); go_simp <;> with_reducible rfl)
              try simp only [Act.put, List.setIfInBounds_toArray, List.set_cons_zero, List.set_cons_succ]
              refine wpAnyH_ready (rs := [5]) (by kernel_rfl) (by simp) ?_
              refine AllReadyH.cons (o := { dst := some 48, op := _, type := _, pos := _, after := _, guard := _ }) rfl (fun K hK => ?_) AllReadyH.nil
              go_simp
              refine (HPv.out _ (HC4.out _ hHeld)).mono ?_
              rintro e x2 ⟨⟨A3, c3, rfl, o3_⟩, hk1⟩
              have hKeep := since_step hHeld hk1
              clear hk1
              go_wp2_with fail
              refine hK.out _ _ (by (try dsimp only); exact hKeep) (fun hHeld => ?_)
              clear hK K hKeep
              try simp only [Act.put, List.setIfInBounds_toArray, List.set_cons_zero, List.set_cons_succ]
              refine wpAnyH_take (i := 6) (oi := { dst := some 10, op := _, type := _, pos := _, after := _, guard := _ }) (v := ?_) rfl (by kernel_rfl) (by kernel_rfl) (by kernel_rfl) (fun _ _ _ h => h) (Or.inl ⟨by rfl, ?_⟩) hHeld ?_
              rotate_left
              · (intro w hSw; clear hSw; go_simp <;> with_reducible rfl)
              try simp only [Act.put, List.setIfInBounds_toArray, List.set_cons_zero, List.set_cons_succ]
              refine wpAnyH_done (by kernel_rfl) ?_ _
              have s3 := Sl.of_own o3_
              have HS3 : Hid (∀ V, Below x2.heap.size x2 V → Sl V A3 (rc Un.cells pl)) := Lib.hid fun V h => s3.below h
              have HZ3 : Hid (∀ V, Below x2.heap.size x2 V → (⟨za, zc⟩ : Un).at V b (o + k * 2)) := Lib.hid fun V h => HZ2.out _ (hHeld.trans (h.mono hHeld.size))
              have HM3 : Hid (∀ V, Below x2.heap.size x2 V → (⟨ma, mc⟩ : Un).at V b2 (o2 + j * 2)) := Lib.hid fun V h => (HQ2.out _ (hHeld.trans (h.mono hHeld.size))).2
              have HU3 : Hid (∀ V, Below x2.heap.size x2 V → V.cell? ⟨g, 0, none⟩ = some (.int .i64 ua) ∧ V.cell? ⟨g, 1, none⟩ = some (.int .i64 uc)) := Lib.hid fun V h => HU2.out _ (hHeld.trans (h.mono hHeld.size))
              have HB3 : Hid (∀ V, Below x2.heap.size x2 V → Below y4.heap.size y4 V) := Lib.hid fun V h => hB.trans ((hHeld.trans (h.mono hHeld.size)).mono hB.size)
              clear s3 o3_ hHeld
              go_wp2_with fail
              go_loopw [6, 8, 11] (fun nv ov iv wr => ∃ (i : Nat) (n : Int), i ≤ pl.length ∧ nv = .int .i64 n ∧ n = ((cn + (pl.take i).count ⟨za, zc⟩ : Nat) : Int) ∧ ov = .bool true ∧ iv = .int .i64 i ∧ Below x2.heap.size x2 wr) (fun _ _ iv _ => pl.length - (intOf iv).toNat)
              case atStart => exact ⟨0, _, by omega, rfl, by simp, rfl, rfl, Below.refl _ _⟩
              case round =>
                obtain ⟨i, n, hi, rfl, hn, rfl, rfl, hB⟩ := hrel
                by_cases hlt : i < pl.length
                · have hlk : (i : Int) < (pl.length : Int) := by omega
                  have hge : (0 : Int) ≤ (i : Int) := by omega
                  obtain ⟨b3, o3, rfl, hbw, hg⟩ := (HS3.out _ hB).un hlt
                  have hct := count_take pl ⟨za, zc⟩ (i + 1)
                  have hcs := count_step pl ⟨za, zc⟩ hlt
                  have HMEM : Hid (pl[i] = ⟨za, zc⟩ → (⟨ma, mc⟩ : Un) = ⟨ua, uc⟩) := Lib.hid fun e => HPm.out (by rw [← e]; exact List.getElem_mem hlt)
                  generalize pl[i] = v at *
                  obtain ⟨va, vc⟩ := v
                  obtain ⟨v0, v1⟩ := hg
                  simp only at v0 v1
                  obtain ⟨z0, z1⟩ := HZ3.out _ hB
                  obtain ⟨m0, m1⟩ := HM3.out _ hB
                  obtain ⟨u0, u1⟩ := HU3.out _ hB
                  by_cases d : va = za ∧ vc = zc
                  · obtain ⟨rfl, rfl⟩ := d
                    have hmu := HMEM.out rfl
                    injection hmu with e1 e2
                    subst e1
                    subst e2
                    rw [if_pos rfl] at hcs
                    have hn0 : 0 ≤ n := by omega
                    have hn1 : n ≤ 0 := by omega
                    have hR : n + 1 = ((cn + (pl.take (i + 1)).count ⟨va, vc⟩ : Nat) : Int) := by omega
                    have HR := Lib.hid hR
                    clear hn hct hcs hR HMEM
                    go_wp2_with fail
                    go_quiet (fail)
                    go_wp2_with fail
                    go_quiet (fail)
                    go_wp2_with fail
                    go_roundw
                    case rel => exact ⟨i + 1, n + 1, by omega, rfl, HR.out, rfl, by go_num, below_drewN hB _⟩
                    case measure => simp [intOf]; omega
                  · rw [if_neg (fun e => d (by injection e with e1 e2; exact ⟨e1, e2⟩))] at hcs
                    have hR : n = ((cn + (pl.take (i + 1)).count ⟨za, zc⟩ : Nat) : Int) := by omega
                    have HR := Lib.hid hR
                    clear hn hct hcs hR HMEM
                    by_cases d0 : va = za
                    · have d1 : ¬ vc = zc := fun e => d ⟨d0, e⟩
                      subst d0
                      clear d
                      go_wp2_with fail
                      go_quiet (fail)
                      go_wp2_with fail
                      go_roundw
                      case rel => exact ⟨i + 1, n, by omega, rfl, HR.out, rfl, by go_num, below_drewN hB _⟩
                      case measure => simp [intOf]; omega
                    · clear d
                      go_wp2_with fail
                      go_quiet (fail)
                      go_wp2_with fail
                      go_roundw
                      case rel => exact ⟨i + 1, n, by omega, rfl, HR.out, rfl, by go_num, below_drewN hB _⟩
                      case measure => simp [intOf]; omega
                · obtain rfl : i = pl.length := by omega
                  rw [List.take_length] at hn
                  have HN := Lib.hid hn
                  clear hn
                  go_wp2_with fail
                  go_roundw
                  case rel => exact ⟨j + 1, n, by omega, rfl, by rw [HCN.out, HN.out], rfl, by go_num, HB3.out _ hB⟩
                  case measure => simp [intOf]; omega
            · obtain rfl : j = ms.length := by omega
              rw [hT] at hn
              obtain rfl : n = 1 := by rw [hn]; rfl
              clear hn
              go_wp2_with fail
              go_roundw
              case rel => exact ⟨k + 1, by omega, by go_num, HB2.out _ hB⟩
              case measure => simp [intOf]; omega
      · obtain rfl : k = us.length := by omega
        go_wp2_with fail
        refine (HLV.out _).mono ?_
        rintro e zz ⟨rfl, hb⟩
        have hE := since_step (HC2.out _ hB) hb
        go_wp2_with fail
        go_ret
        exact ⟨rfl, HB.out _ hE⟩
end Go.Proofs.Ytlbccpiadmcpjaa
end
