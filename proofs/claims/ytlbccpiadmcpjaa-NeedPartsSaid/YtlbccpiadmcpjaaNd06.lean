import Derived.Test.YtlbccpiadmcpjaaNd04
import Derived.Test.YtlbccpiadmcpjaaNd05
section
namespace Go.Proofs.Ytlbccpiadmcpjaa
open Go.ChangeShapes Go.WideShapes Go.ChangeAt Go.RowKit
set_option linter.unusedVariables false
set_option linter.unusedSimpArgs false

theorem own_lit {w : World} {B n size : Nat} (cs : List Value) (e : TypeId) (hB : B ≤ w.heap.size) (hl : cs.length = n * size) (hn : n ≤ maxLen) :
    (w.alloc (.cells cs.toArray e)).ownsRow B e size (.slice (some ⟨w.heap.size, 0, none⟩) n n) n cs :=
  ⟨hl, .inr ⟨w.heap.size, n, cs.toArray, rfl, hB, heap_alloc_new w _, Nat.le_refl _, hn, by simpa using hl, by rw [← hl]; simp⟩⟩
def unL (id kind : Int) (L : List Nt) : List Un := if kind = 1 then [⟨id, 0⟩] else L.map fun x => ⟨id, x.n⟩
theorem unL_len (id kind : Int) (L : List Nt) : (unL id kind L).length ≤ L.length + 1 := by unfold unL; split <;> simp
def hasU (id kind : Int) (L : List Nt) (u : Un) : Bool := decide (u ∈ unL id kind L)
def UnRes (B : Nat) (w' : World) (e : Ending) (l : List Un) : Prop := ∃ A' c', e = .returned (.slice A' l.length c') ∧ w'.ownsRow B 31 2 (.slice A' l.length c') l.length (rc Un.cells l)
def isU (u x : Un) : Bool := decide (u = x)
theorem atU_in (u : Un) (l : List Un) : decide (0 ≤ atL (isU u) l) = decide (u ∈ l) := by
  rcases atL_cases (isU u) l with ⟨h0, hno⟩ | ⟨k, hk, h0, hpk, _⟩
  · rw [h0]
    have : ¬ u ∈ l := fun hm => by
      obtain ⟨j, hj, rfl⟩ := List.getElem_of_mem hm
      have := hno j hj
      simp [isU] at this
    simp [this]
  · rw [h0]
    have : u ∈ l := by
      have : u = l[k] := by simpa [isU] using hpk
      rw [this]; exact List.getElem_mem hk
    simp [this]
set_option maxHeartbeats 4000000 in
set_option maxRecDepth 100000 in
theorem units_any (id mem kind : Int) (A : Option Addr) (cap : Nat) (L : List Nt) (w : World) (hl : L.length ≤ 900000) (hs : Sl w A (rc Nt.cells L)) :
    Calls Try.prog 20 #[.agg #[.int .i64 id, .int .i64 mem, .int .i64 kind, .slice A L.length cap]] w fun e w' => UnRes w.heap.size w' e (unL id kind L) ∧ Below w.heap.size w w' := by
  have hB0 := since_alloc (Below.refl _ w) (.cells #[.int .i64 id, .int .i64 mem, .int .i64 kind, .slice A L.length cap] 24)
  have hV0 : Ac.Bx (w.alloc (.cells #[.int .i64 id, .int .i64 mem, .int .i64 kind, .slice A L.length cap] 24)) w.heap.size ⟨id, mem, kind, A, L.length, cap⟩ := Ac.Bx.new w ⟨id, mem, kind, A, L.length, cap⟩
  have hs0 := hs.alloc (.cells #[.int .i64 id, .int .i64 mem, .int .i64 kind, .slice A L.length cap] 24)
  obtain ⟨g0, g1, g2, g3⟩ := hV0.got
  simp only at g0 g1 g2 g3
  by_cases hk : kind = 1
  · have HE : Hid (unL id kind L = [⟨id, 0⟩]) := Lib.hid (if_pos hk)
    have hkb : (kind == 1) = true := by simpa using hk
    clear hk
    go_enter Try.func20, Try.ntmps20
    go_wp2_with fail
    go_ret
    rw [HE.out]
    have hO := own_lit (w := w.alloc (.cells #[.int .i64 id, .int .i64 mem, .int .i64 kind, .slice A L.length cap] 24)) (B := w.heap.size) (n := 1) (size := 2) (Un.cells ⟨id, 0⟩) 31 (by simp) rfl (by decide)
    exact ⟨⟨_, _, rfl, by simpa [rc, Un.cells] using hO⟩, since_alloc hB0 _⟩
  · have HE : Hid (unL id kind L = L.map fun x => ⟨id, x.n⟩) := Lib.hid (if_neg hk)
    have hkb : (kind == 1) = false := by simpa using hk
    clear hk
    go_enter Try.func20, Try.ntmps20
    go_upto_region 3 with fail
    generalize hWW : w.alloc (.cells #[.int .i64 id, .int .i64 mem, .int .i64 kind, .slice A L.length cap] 24) = W at *
    clear hWW g0 g1 g2 g3
    have hBW := hB0
    have hWs := hBW.size
    have hsW := hs0
    have HV : Hid (∀ V, Below W.heap.size W V → Ac.Bx V w.heap.size ⟨id, mem, kind, A, L.length, cap⟩) := Lib.hid fun V hV => hV0.below hV
    have HV0 := (HV.out _ (Below.refl _ _)).got
    obtain ⟨q0, q1, q2, q3⟩ := HV0
    simp only at q0 q1 q2 q3
    go_wp2_with (first
      | (at_make; refine wpList_mk rfl (.const (.int .i64 0)) (.tmp 15) rfl EUn L.length rfl rfl rfl (by omega) (by unfold maxLen; omega) (Nat.le_refl _) ?_; intro W2 hownW hbW; have q0 := (HV.out _ hbW).got.1; have q1 := (HV.out _ hbW).got.2.1; have q2 := (HV.out _ hbW).got.2.2.1; have q3 := (HV.out _ hbW).got.2.2.2; simp only at q0 q1 q2 q3)
      | fail)
    go_loopw [3, 20] (fun out i wr => ∃ (k : Nat) (A' : Option Addr) (c' : Nat), k ≤ L.length ∧ i = .int .i64 k ∧ out = .slice A' k c' ∧ wr.ownsRow W.heap.size 31 2 (.slice A' k c') k (rc Un.cells ((L.take k).map fun x => (⟨id, x.n⟩ : Un))) ∧ Below W.heap.size W wr) (fun _ i _ => L.length - (intOf i).toNat)
    case atStart => exact ⟨0, _, _, by omega, rfl, rfl, by simpa [rc] using hownW, hbW⟩
    case round =>
      obtain ⟨k, A', c', hk, rfl, rfl, hown, hBr⟩ := hrel
      have hBw := hBW.trans (hBr.mono hWs)
      obtain ⟨q0, q1, q2, q3⟩ := (HV.out _ hBr).got
      simp only at q0 q1 q2 q3
      by_cases hlt : k < L.length
      · obtain ⟨b, o, rfl, hbw, hg⟩ := (hsW.below hBr).nt hlt
        obtain ⟨n0, _⟩ := hg
        have hlk : (k : Int) < (L.length : Int) := by omega
        have hge : (0 : Int) ≤ (k : Int) := by omega
        have HT : Hid ((L.take (k + 1)).map (fun x => (⟨id, x.n⟩ : Un)) = (L.take k).map (fun x => (⟨id, x.n⟩ : Un)) ++ [⟨id, L[k].n⟩]) := Lib.hid (by rw [take_snoc L k hlt, List.map_append]; rfl)
        have hrb := hBr.size
        go_wp2_with (first
          | (at_builtin; refine wpList_app rfl (.tmp 24) (.tmp 29) rfl EUn rfl rfl (hown.alloc _) (m := 1) (news := (⟨id, L[k].n⟩ : Un).cells) rfl (Sl.new_ _ _ _) (Un.one _) (by unfold maxLen; omega) (by omega) (by simp only [World.size_alloc]; omega) ?_; intro A2 c2 w2 hown2 hg2 hb2)
          | fail)
        go_roundw
        case rel =>
          refine ⟨k + 1, A2, c2, by omega, by go_num, rfl, ?_, ?_⟩
          · rw [HT.out, rc_append]
            simpa [rc] using hown2
          · exact (hBr.alloc hrb _).trans hb2
        case measure => simp [intOf]; omega
      · obtain rfl : k = L.length := by omega
        rw [List.take_length] at hown
        have hown2 := own_base hown hWs
        have hml : (L.map fun x => (⟨id, x.n⟩ : Un)).length = L.length := by simp
        go_wp2_with fail
        go_ret
        rw [HE.out]
        refine ⟨⟨A', c', ?_, ?_⟩, hBw⟩
        · rw [hml]; rfl
        · rw [hml]; exact hown2
set_option maxHeartbeats 4000000 in
set_option maxRecDepth 100000 in
theorem runits_any (id mem kind : Int) (A : Option Addr) (cap : Nat) (L : List Nt) (w : World) (hl : L.length ≤ 900000) (hs : Sl w A (rc Nt.cells L)) :
    Calls Try.prog 8 #[.agg #[.int .i64 id, .int .i64 mem, .int .i64 kind, .slice A L.length cap]] w fun e w' => UnRes w.heap.size w' e (unL id kind L) ∧ Below w.heap.size w w' := by
  have hB0 := since_alloc (Below.refl _ w) (.cells #[.int .i64 id, .int .i64 mem, .int .i64 kind, .slice A L.length cap] 24)
  have hV0 : Ac.Bx (w.alloc (.cells #[.int .i64 id, .int .i64 mem, .int .i64 kind, .slice A L.length cap] 24)) w.heap.size ⟨id, mem, kind, A, L.length, cap⟩ := Ac.Bx.new w ⟨id, mem, kind, A, L.length, cap⟩
  have hs0 := hs.alloc (.cells #[.int .i64 id, .int .i64 mem, .int .i64 kind, .slice A L.length cap] 24)
  obtain ⟨g0, g1, g2, g3⟩ := hV0.got
  simp only at g0 g1 g2 g3
  by_cases hk : kind = 1
  · have HE : Hid (unL id kind L = [⟨id, 0⟩]) := Lib.hid (if_pos hk)
    have hkb : (kind == 1) = true := by simpa using hk
    clear hk
    go_enter Try.func8, Try.ntmps8
    go_wp2_with (first
      | (at_builtin; refine wpList_app rfl (.tmp 8) (.tmp 12) rfl EUn rfl rfl (own_nil w.heap.size _ _) (m := 1) (news := (⟨id, 0⟩ : Un).cells) rfl (Sl.new1 _ _ _ _) (Un.one _) (by unfold maxLen; omega) (by omega) (by simp; omega) ?_; intro A2 c2 w2 hown2 hg2 hb2)
      | fail)
    go_ret
    rw [HE.out]
    exact ⟨⟨A2, c2, rfl, by simpa [rc] using hown2⟩, (since_alloc hB0 _).trans (hb2.mono (by simp))⟩
  · have HE : Hid (unL id kind L = L.map fun x => ⟨id, x.n⟩) := Lib.hid (if_neg hk)
    have hkb : (kind == 1) = false := by simpa using hk
    clear hk
    go_enter Try.func8, Try.ntmps8
    go_upto_region 4 with fail
    generalize hWW : w.alloc (.cells #[.int .i64 id, .int .i64 mem, .int .i64 kind, .slice A L.length cap] 24) = W at *
    clear hWW g0 g1 g2 g3
    have hBW := hB0
    have hWs := hBW.size
    have hsW := hs0
    have HV : Hid (∀ V, Below W.heap.size W V → Ac.Bx V w.heap.size ⟨id, mem, kind, A, L.length, cap⟩) := Lib.hid fun V hV => hV0.below hV
    have HV0 := (HV.out _ (Below.refl _ _)).got
    obtain ⟨q0, q1, q2, q3⟩ := HV0
    simp only at q0 q1 q2 q3
    go_wp2_with fail
    go_loopw [3, 4] (fun out i wr => ∃ (k : Nat) (A' : Option Addr) (c' : Nat), k ≤ L.length ∧ i = .int .i64 k ∧ out = .slice A' k c' ∧ wr.ownsRow W.heap.size 31 2 (.slice A' k c') k (rc Un.cells ((L.take k).map fun x => (⟨id, x.n⟩ : Un))) ∧ Below W.heap.size W wr) (fun _ i _ => L.length - (intOf i).toNat)
    case atStart => exact ⟨0, none, 0, by omega, rfl, rfl, own_nil _ _ _, Below.refl _ _⟩
    case round =>
      obtain ⟨k, A', c', hk, rfl, rfl, hown, hBr⟩ := hrel
      have hBw := hBW.trans (hBr.mono hWs)
      obtain ⟨q0, q1, q2, q3⟩ := (HV.out _ hBr).got
      simp only at q0 q1 q2 q3
      by_cases hlt : k < L.length
      · obtain ⟨b, o, rfl, hbw, hg⟩ := (hsW.below hBr).nt hlt
        obtain ⟨n0, _⟩ := hg
        have hcw : W.cell? ⟨b, o + k, none⟩ = some (.int .i64 L[k].n) := by
          obtain ⟨b', o', e, hb', hg'⟩ := hsW.nt hlt
          injection e with e; injection e with e1 e2 e3; subst e1; subst e2; exact hg'.1
        have hlk : (k : Int) < (L.length : Int) := by omega
        have hge : (0 : Int) ≤ (k : Int) := by omega
        have HT : Hid ((L.take (k + 1)).map (fun x => (⟨id, x.n⟩ : Un)) = (L.take k).map (fun x => (⟨id, x.n⟩ : Un)) ++ [⟨id, L[k].n⟩]) := Lib.hid (by rw [take_snoc L k hlt, List.map_append]; rfl)
        have hrb := hBr.size
        have HQ : Hid (∀ V, Below W.heap.size wr V → Ac.Bx V w.heap.size ⟨id, mem, kind, some ⟨b, o, none⟩, L.length, cap⟩) := Lib.hid fun V hV => HV.out V (hBr.trans hV)
        obtain ⟨nn, hnn⟩ : ∃ y, L[k].n = y := ⟨_, rfl⟩
        rw [hnn] at n0 HT
        have hbl := World.block_lt_of_cell? _ _ hcw
        have HN0 : Hid (∀ V, Below W.heap.size wr V → V.cell? ⟨b, o + k, none⟩ = some (.int .i64 nn)) := Lib.hid fun V hV => ((hBr.trans hV).cell (p := ⟨b, o + k, none⟩) hbl).trans (by rw [hcw, hnn])
        clear hnn hcw hBw hB0 hs0 hV0
        go_wp2_with fail
        refine wp_region_held_drew (S := (fun V => Below W.heap.size wr V)) (by kernel_rfl) (by exact (Below.refl _ _).drew) (fun hHeld => ?_)
        refine wpAnyH_take (i := 0) (oi := { dst := some 21, op := _, type := _, pos := _, after := _, guard := _ }) (v := ?_) rfl (by kernel_rfl) (by kernel_rfl) (by kernel_rfl) (fun _ _ _ h => h) (Or.inl ⟨by rfl, ?_⟩) hHeld ?_
        rotate_left
        · (intro w hSw; obtain ⟨q0, q1, q2, q3⟩ := (HQ.out _ hSw).got; simp only at q0 q1 q2 q3; have n0 := HN0.out _ hSw; go_simp <;> with_reducible rfl)
        try simp only [Act.put, List.setIfInBounds_toArray, List.set_cons_zero, List.set_cons_succ]
        refine wpAnyH_take (i := 1) (oi := { dst := some 22, op := _, type := _, pos := _, after := _, guard := _ }) (v := ?_) rfl (by kernel_rfl) (by kernel_rfl) (by kernel_rfl) (fun _ _ _ h => h) (Or.inl ⟨by rfl, ?_⟩) hHeld ?_
        rotate_left
        · (intro w hSw; obtain ⟨q0, q1, q2, q3⟩ := (HQ.out _ hSw).got; simp only at q0 q1 q2 q3; have n0 := HN0.out _ hSw; go_simp <;> with_reducible rfl)
        try simp only [Act.put, List.setIfInBounds_toArray, List.set_cons_zero, List.set_cons_succ]
        refine wpAnyH_take (i := 2) (oi := { dst := some 23, op := _, type := _, pos := _, after := _, guard := _ }) (v := ?_) rfl (by kernel_rfl) (by kernel_rfl) (by kernel_rfl) (fun _ _ _ h => h) (Or.inl ⟨by rfl, ?_⟩) hHeld ?_
        rotate_left
        · (intro w hSw; obtain ⟨q0, q1, q2, q3⟩ := (HQ.out _ hSw).got; simp only at q0 q1 q2 q3; have n0 := HN0.out _ hSw; go_simp <;> with_reducible rfl)
        try simp only [Act.put, List.setIfInBounds_toArray, List.set_cons_zero, List.set_cons_succ]
        refine wpAnyH_take (i := 3) (oi := { dst := some 24, op := _, type := _, pos := _, after := _, guard := _ }) (v := ?_) rfl (by kernel_rfl) (by kernel_rfl) (by kernel_rfl) (fun _ _ _ h => h) (Or.inl ⟨by rfl, ?_⟩) hHeld ?_
        rotate_left
        · (intro w hSw; obtain ⟨q0, q1, q2, q3⟩ := (HQ.out _ hSw).got; simp only at q0 q1 q2 q3; have n0 := HN0.out _ hSw; go_simp <;> with_reducible rfl)
        try simp only [Act.put, List.setIfInBounds_toArray, List.set_cons_zero, List.set_cons_succ]
        refine wpAnyH_take (i := 4) (oi := { dst := some 25, op := _, type := _, pos := _, after := _, guard := _ }) (v := ?_) rfl (by kernel_rfl) (by kernel_rfl) (by kernel_rfl) (fun _ _ _ h => h) (Or.inl ⟨by rfl, ?_⟩) hHeld ?_
        rotate_left
        · (intro w hSw; obtain ⟨q0, q1, q2, q3⟩ := (HQ.out _ hSw).got; simp only at q0 q1 q2 q3; have n0 := HN0.out _ hSw; go_simp <;> with_reducible rfl)
        try simp only [Act.put, List.setIfInBounds_toArray, List.set_cons_zero, List.set_cons_succ]
        refine wpAnyH_take (i := 5) (oi := { dst := some 26, op := _, type := _, pos := _, after := _, guard := _ }) (v := ?_) rfl (by kernel_rfl) (by kernel_rfl) (by kernel_rfl) (fun _ _ _ h => h) (Or.inl ⟨by rfl, ?_⟩) hHeld ?_
        rotate_left
        · (intro w hSw; obtain ⟨q0, q1, q2, q3⟩ := (HQ.out _ hSw).got; simp only at q0 q1 q2 q3; have n0 := HN0.out _ hSw; go_simp <;> with_reducible rfl)
        try simp only [Act.put, List.setIfInBounds_toArray, List.set_cons_zero, List.set_cons_succ]
        refine wpAnyH_take (i := 6) (oi := { dst := some 27, op := _, type := _, pos := _, after := _, guard := _ }) (v := ?_) rfl (by kernel_rfl) (by kernel_rfl) (by kernel_rfl) (fun _ _ _ h => h) (Or.inl ⟨by rfl, ?_⟩) hHeld ?_
        rotate_left
        · (intro w hSw; obtain ⟨q0, q1, q2, q3⟩ := (HQ.out _ hSw).got; simp only at q0 q1 q2 q3; have n0 := HN0.out _ hSw; go_simp <;> with_reducible rfl)
        try simp only [Act.put, List.setIfInBounds_toArray, List.set_cons_zero, List.set_cons_succ]
        refine wpAnyH_take (i := 7) (oi := { dst := some 28, op := _, type := _, pos := _, after := _, guard := _ }) (v := ?_) rfl (by kernel_rfl) (by kernel_rfl) (by kernel_rfl) (fun _ _ _ h => h) (Or.inl ⟨by rfl, ?_⟩) hHeld ?_
        rotate_left
        · (intro w hSw; obtain ⟨q0, q1, q2, q3⟩ := (HQ.out _ hSw).got; simp only at q0 q1 q2 q3; have n0 := HN0.out _ hSw; go_simp <;> with_reducible rfl)
        try simp only [Act.put, List.setIfInBounds_toArray, List.set_cons_zero, List.set_cons_succ]
        refine wpAnyH_take (i := 8) (oi := { dst := some 29, op := _, type := _, pos := _, after := _, guard := _ }) (v := ?_) rfl (by kernel_rfl) (by kernel_rfl) (by kernel_rfl) (fun _ _ _ h => h) (Or.inl ⟨by rfl, ?_⟩) hHeld ?_
        rotate_left
        · (intro w hSw; obtain ⟨q0, q1, q2, q3⟩ := (HQ.out _ hSw).got; simp only at q0 q1 q2 q3; have n0 := HN0.out _ hSw; go_simp <;> with_reducible rfl)
        try simp only [Act.put, List.setIfInBounds_toArray, List.set_cons_zero, List.set_cons_succ]
        refine wpAnyH_ready (rs := [9]) (by kernel_rfl) (by simp) ?_
        refine AllReadyH.cons (o := { dst := some 30, op := _, type := _, pos := _, after := _, guard := _ }) rfl (fun K hK => ?_) AllReadyH.nil
        have hHd := hHeld
        obtain ⟨q0, q1, q2, q3⟩ := (HQ.out _ hHd).got; simp only at q0 q1 q2 q3; have n0 := HN0.out _ hHd
        have hA := Below.alloc hHeld hrb (.cells (⟨id, nn⟩ : Un).cells.toArray 31)
        have hKeep := hA
        have HU := Un.Bx.new wr.drew ⟨id, nn⟩
        have hown1 := World.ownsRow.alloc (w := wr.drew) hown (.cells (⟨id, nn⟩ : Un).cells.toArray 31)
        skip
        go_simp
        refine hK.out _ _ (by (try dsimp only); exact hKeep) (fun hHeld => ?_)
        clear hK K hKeep
        try simp only [Act.put, List.setIfInBounds_toArray, List.set_cons_zero, List.set_cons_succ]
        refine wpAnyH_ready (rs := [10]) (by kernel_rfl) (by simp) ?_
        refine AllReadyH.cons (o := { dst := some 31, op := _, type := _, pos := _, after := _, guard := _ }) rfl (fun K hK => ?_) AllReadyH.nil
        refine step_app rfl (.tmp 21) (.tmp 30) rfl EUn (n := k) (m := 1) (c := c') (d := 1) (A := A') (B := some ⟨wr.drew.heap.size, 0, none⟩) (by simp [Act.eval, Act.put]; done) (by simp [Act.eval, Act.put]; done) hown1 (by rw [Un.len]) HU.sl (Un.one _) (by unfold maxLen; omega) (by omega) (Nat.le_trans hrb hHeld.size) ?_
        intro A2 c2 u2 hown2 hg2 hb2
        have hKeep := hHeld.trans hb2
        refine hK.out _ _ (by (try dsimp only); exact hKeep) (fun hHeld => ?_)
        clear hK K hKeep
        try simp only [Act.put, List.setIfInBounds_toArray, List.set_cons_zero, List.set_cons_succ]
        refine wpAnyH_take (i := 11) (oi := { dst := some 3, op := _, type := _, pos := _, after := _, guard := _ }) (v := ?_) rfl (by kernel_rfl) (by kernel_rfl) (by kernel_rfl) (fun _ _ _ h => h) (Or.inl ⟨by rfl, ?_⟩) hHeld ?_
        rotate_left
        · (intro w hSw; obtain ⟨q0, q1, q2, q3⟩ := (HQ.out _ hSw).got; simp only at q0 q1 q2 q3; have n0 := HN0.out _ hSw; go_simp <;> with_reducible rfl)
        try simp only [Act.put, List.setIfInBounds_toArray, List.set_cons_zero, List.set_cons_succ]
        refine wpAnyH_done (by kernel_rfl) ?_ _
        have hB2 := hBr.trans hHeld
        go_wp2_with fail
        go_roundw
        case rel =>
          refine ⟨k + 1, A2, c2, by omega, by go_num, rfl, ?_, hB2⟩
          rw [HT.out, rc_append]
          simpa [rc] using hown2
        case measure => simp [intOf]; omega
      · obtain rfl : k = L.length := by omega
        rw [List.take_length] at hown
        have hown2 := own_base hown hWs
        have hml : (L.map fun x => (⟨id, x.n⟩ : Un)).length = L.length := by simp
        go_wp2_with fail
        go_ret
        rw [HE.out]
        refine ⟨⟨A', c', ?_, ?_⟩, hBw⟩
        · rw [hml]; rfl
        · rw [hml]; exact hown2
end Go.Proofs.Ytlbccpiadmcpjaa
end
