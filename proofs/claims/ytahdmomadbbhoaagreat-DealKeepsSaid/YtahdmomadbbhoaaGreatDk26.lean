import Derived.Deep.DeepCutAuto
import Derived.Deep.RegionHeld3
import Derived.Test.YtahdmomadbbhoaaGreatDk25
import Derived.Deep.RegionLaw
import Derived.Lib.SliceRun
import Derived.Test.YtahdmomadbbhoaaGreatDk02
section
namespace Go.Proofs.YtahdmomadbbhoaaGreat
open Go.ChangeShapes Go.WideShapes Go.ChangeAt Go.RowKit
set_option linter.unusedVariables false
set_option linter.unusedSimpArgs false

def Fw.Tells2 (F : Nat) (caps : Array Value) (ah : Fw → Fw → Bool) (B : Nat) (w : World) : Prop :=
  ∀ (a b : Fw) (W : World), Below B w W → Calls Tryz.prog F (#[a.val, b.val] ++ caps) W fun e w' => e = .returned (.bool (ah a b)) ∧ Below W.heap.size W w'
theorem Fw.Tells2.below {F : Nat} {caps : Array Value} {ah : Fw → Fw → Bool} {B : Nat} {w w1 : World} (h : Fw.Tells2 F caps ah B w) (hb : Below B w w1) {C : Nat} (hC : B ≤ C) : Fw.Tells2 F caps ah C w1 :=
  fun a b W hW => h a b W (hb.trans (hW.mono hC))
structure Fw.Bx (w : World) (b : Nat) (g : Fw) : Prop where
  lt : b < w.heap.size
  at_ : g.at w b 0
  hp : w.heap[b]? = some (.cells g.cells.toArray 86 (0, 0))
theorem Fw.Bx.new (w : World) (g : Fw) : Fw.Bx (w.alloc (.cells g.cells.toArray 86)) w.heap.size g := by
  have h := heap_alloc_new w (.cells g.cells.toArray 86 (0, 0))
  refine ⟨by simp, Fw.at_of fun j u hu => ?_, h⟩
  rw [Nat.zero_add, cell_of_row _ _ j g.cells.toArray 86 (0, 0) h]
  simpa using hu
theorem Fw.Bx.below {w w' : World} {b : Nat} {g : Fw} (h : Fw.Bx w b g) (hb : Below w.heap.size w w') : Fw.Bx w' b g :=
  ⟨Nat.lt_of_lt_of_le h.lt hb.size, Fw.at_keep h.at_ fun i => hb.cell (p := ⟨b, i, none⟩) h.lt, (hb.block b h.lt).trans h.hp⟩
theorem Fw.Bx.sl {w : World} {b : Nat} {g : Fw} (h : Fw.Bx w b g) : Sl w (some ⟨b, 0, none⟩) g.cells := by
  intro _
  refine ⟨b, 0, rfl, fun j u hu => ?_⟩
  rw [Nat.zero_add, cell_of_row _ _ j g.cells.toArray 86 (0, 0) h.hp]
  simpa using hu
theorem Fw.Bx.got {w : World} {b : Nat} {g : Fw} (h : Fw.Bx w b g) : w.cell? ⟨b, 0, none⟩ = some (.int .i64 g.ac) ∧ w.cell? ⟨b, 1, none⟩ = some (.int .i64 g.cl) ∧ w.cell? ⟨b, 2, none⟩ = some (.int .i64 g.amt) := by
  have := h.at_
  unfold Fw.at at this
  simpa only [Nat.zero_add] using this
set_option maxHeartbeats 1000000 in
set_option maxRecDepth 100000 in
theorem rising_fw (A : Option Addr) (cap : Nat) (l : List Fw) (F : Nat) (caps : Array Value) (ah : Fw → Fw → Bool) (w : World) (hl : l.length ≤ 1000000) (hs : Sl w A (rc Fw.cells l)) (hF : Ent Tryz.prog F) (hp : Fw.Tells2 F caps ah w.heap.size w) :
    Calls Tryz.prog 75 #[.slice A l.length cap, .func (.func F) #[] caps] w fun e w' => e = .returned (.bool (risingL ah l)) ∧ Below w.heap.size w w' := by
  go_enter Tryz.func75, Tryz.ntmps75
  go_wp2_with fail
  go_loopw [5] (fun i wr => ∃ k : Nat, i = .int .i64 ((k : Int) + 1) ∧ (k ≤ l.length) ∧ (∀ j, (hj : j + 1 < l.length) → j < k → ah (l[j]'(by omega)) l[j + 1] = true) ∧ Below w.heap.size w wr) (fun i _ => l.length + 1 - (intOf i).toNat)
  case atStart => exact ⟨0, by first | rfl | go_num, by omega, fun j hj h => absurd h (by omega), Below.refl _ _⟩
  case round =>
    obtain ⟨k, rfl, hk, hno, hB⟩ := hrel
    by_cases hlt2 : k + 1 < l.length
    · have hkl : k < l.length := by omega
      obtain ⟨b, o, rfl, hbw, hg⟩ := hs.fw hkl
      obtain ⟨b', o', e, hbw', hg'⟩ := hs.fw hlt2
      injection e with e
      injection e with e1 e2 e3
      subst e1; subst e2
      have hg1 : l[k].at wr b (o + k * 3) := Fw.at_keep (w := w) hg fun i => hB.cell (p := ⟨b, i, none⟩) hbw
      have hg2 : l[k + 1].at wr b (o + (k + 1) * 3) := Fw.at_keep (w := w) hg' fun i => hB.cell (p := ⟨b, i, none⟩) hbw
      have HG1 := Lib.hid hg1
      have HG2 := Lib.hid hg2
      have hbr : b < wr.heap.size := Nat.lt_of_lt_of_le hbw hB.size
      have HK : Hid (∀ V, Below wr.heap.size wr V → l[k].at V b (o + k * 3) ∧ l[k + 1].at V b (o + (k + 1) * 3)) := Lib.hid fun V hV =>
        ⟨Fw.at_keep (w := wr) HG1.out fun i => hV.cell (p := ⟨b, i, none⟩) hbr, Fw.at_keep (w := wr) HG2.out fun i => hV.cell (p := ⟨b, i, none⟩) hbr⟩
      have HP : Hid (∀ V, Below wr.heap.size wr V → _) := Lib.hid fun V hV => hp l[k] l[k + 1] V (since_step hB hV)
      obtain ⟨q, hq⟩ : ∃ q, ah l[k] l[k + 1] = q := ⟨_, rfl⟩
      have HXq : Hid (if q then (∀ j, (hj : j + 1 < l.length) → j < k + 1 → ah (l[j]'(by omega)) l[j + 1] = true) else risingL ah l = false) := Lib.hid (by
        cases q with
        | true =>
          intro j hj hjk
          rcases Nat.lt_or_ge j k with h | h
          · exact hno j hj h
          · obtain rfl : j = k := by omega
            exact hq
        | false => exact risingL_false hlt2 hq)
      have HQ := Lib.hid hq
      clear hno hp hg hg' hg1 hg2 HG1 HG2 hq
      generalize l[k] = ga at HK HP HQ
      generalize l[k + 1] = gb at HK HP HQ
      have hw0 : IntKind.i64.wrap (k : Int) = (k : Int) := by rw [IntKind.wrap_i64]; omega
      have hw2 : IntKind.i64.wrap ((k : Int) + 1 + 1) = (k : Int) + 1 + 1 := by rw [IntKind.wrap_i64]; omega
      have hn0 : (0 : Int) ≤ (k : Int) := by omega
      have hn1 : (0 : Int) ≤ (k : Int) + 1 := by omega
      have htn : ((k : Int) + 1).toNat = k + 1 := by omega
      have hlt3 : (k : Int) + 1 < (l.length : Int) := by omega
      clear hs hbw hbw'
      go_wp2_with fail
      refine wp_region_held_drew (S := (fun V => Below wr.heap.size wr V)) (by kernel_rfl) (by exact (Below.refl _ _).drew) (fun hHeld => ?_)
      refine wpAnyH_take (i := 0) (oi := { dst := some 12, op := _, type := _, pos := _, after := _, guard := _ }) (v := ?_) rfl (by kernel_rfl) (by kernel_rfl) (by kernel_rfl) (fun _ _ _ h => h) (Or.inl ⟨by rfl, ?_⟩) hHeld ?_
      rotate_left
      · (intro w hSw; obtain ⟨⟨g0, g1, g2⟩, h0, h1, h2⟩ := HK.out _ hSw; go_simp <;> with_reducible rfl)
      try simp only [Act.put, List.setIfInBounds_toArray, List.set_cons_zero, List.set_cons_succ]
      refine wpAnyH_take (i := 1) (oi := { dst := some 13, op := _, type := _, pos := _, after := _, guard := _ }) (v := ?_) rfl (by kernel_rfl) (by kernel_rfl) (by kernel_rfl) (fun _ _ _ h => h) (Or.inl ⟨by rfl, ?_⟩) hHeld ?_
      rotate_left
      · (intro w hSw; obtain ⟨⟨g0, g1, g2⟩, h0, h1, h2⟩ := HK.out _ hSw; go_simp <;> with_reducible rfl)
      try simp only [Act.put, List.setIfInBounds_toArray, List.set_cons_zero, List.set_cons_succ]
      refine wpAnyH_take (i := 2) (oi := { dst := some 14, op := _, type := _, pos := _, after := _, guard := _ }) (v := ?_) rfl (by kernel_rfl) (by kernel_rfl) (by kernel_rfl) (fun _ _ _ h => h) (Or.inl ⟨by rfl, ?_⟩) hHeld ?_
      rotate_left
      · (intro w hSw; obtain ⟨⟨g0, g1, g2⟩, h0, h1, h2⟩ := HK.out _ hSw; go_simp <;> with_reducible rfl)
      try simp only [Act.put, List.setIfInBounds_toArray, List.set_cons_zero, List.set_cons_succ]
      refine wpAnyH_take (i := 3) (oi := { dst := some 15, op := _, type := _, pos := _, after := _, guard := _ }) (v := ?_) rfl (by kernel_rfl) (by kernel_rfl) (by kernel_rfl) (fun _ _ _ h => h) (Or.inl ⟨by rfl, ?_⟩) hHeld ?_
      rotate_left
      · (intro w hSw; obtain ⟨⟨g0, g1, g2⟩, h0, h1, h2⟩ := HK.out _ hSw; go_simp <;> with_reducible rfl)
      try simp only [Act.put, List.setIfInBounds_toArray, List.set_cons_zero, List.set_cons_succ]
      refine wpAnyH_take (i := 4) (oi := { dst := some 16, op := _, type := _, pos := _, after := _, guard := _ }) (v := ?_) rfl (by kernel_rfl) (by kernel_rfl) (by kernel_rfl) (fun _ _ _ h => h) (Or.inl ⟨by rfl, ?_⟩) hHeld ?_
      rotate_left
      · (intro w hSw; obtain ⟨⟨g0, g1, g2⟩, h0, h1, h2⟩ := HK.out _ hSw; go_simp <;> with_reducible rfl)
      try simp only [Act.put, List.setIfInBounds_toArray, List.set_cons_zero, List.set_cons_succ]
      refine wpAnyH_take (i := 5) (oi := { dst := some 17, op := _, type := _, pos := _, after := _, guard := _ }) (v := ?_) rfl (by kernel_rfl) (by kernel_rfl) (by kernel_rfl) (fun _ _ _ h => h) (Or.inl ⟨by rfl, ?_⟩) hHeld ?_
      rotate_left
      · (intro w hSw; obtain ⟨⟨g0, g1, g2⟩, h0, h1, h2⟩ := HK.out _ hSw; go_simp <;> with_reducible rfl)
      try simp only [Act.put, List.setIfInBounds_toArray, List.set_cons_zero, List.set_cons_succ]
      refine wpAnyH_take (i := 6) (oi := { dst := some 18, op := _, type := _, pos := _, after := _, guard := _ }) (v := ?_) rfl (by kernel_rfl) (by kernel_rfl) (by kernel_rfl) (fun _ _ _ h => h) (Or.inl ⟨by rfl, ?_⟩) hHeld ?_
      rotate_left
      · (intro w hSw; obtain ⟨⟨g0, g1, g2⟩, h0, h1, h2⟩ := HK.out _ hSw; go_simp <;> with_reducible rfl)
      try simp only [Act.put, List.setIfInBounds_toArray, List.set_cons_zero, List.set_cons_succ]
      refine wpAnyH_take (i := 7) (oi := { dst := some 19, op := _, type := _, pos := _, after := _, guard := _ }) (v := ?_) rfl (by kernel_rfl) (by kernel_rfl) (by kernel_rfl) (fun _ _ _ h => h) (Or.inl ⟨by rfl, ?_⟩) hHeld ?_
      rotate_left
      · (intro w hSw; obtain ⟨⟨g0, g1, g2⟩, h0, h1, h2⟩ := HK.out _ hSw; go_simp <;> with_reducible rfl)
      try simp only [Act.put, List.setIfInBounds_toArray, List.set_cons_zero, List.set_cons_succ]
      refine wpAnyH_take (i := 8) (oi := { dst := some 20, op := _, type := _, pos := _, after := _, guard := _ }) (v := ?_) rfl (by kernel_rfl) (by kernel_rfl) (by kernel_rfl) (fun _ _ _ h => h) (Or.inl ⟨by rfl, ?_⟩) hHeld ?_
      rotate_left
      · (intro w hSw; obtain ⟨⟨g0, g1, g2⟩, h0, h1, h2⟩ := HK.out _ hSw; go_simp <;> with_reducible rfl)
      try simp only [Act.put, List.setIfInBounds_toArray, List.set_cons_zero, List.set_cons_succ]
      refine wpAnyH_take (i := 9) (oi := { dst := some 21, op := _, type := _, pos := _, after := _, guard := _ }) (v := ?_) rfl (by kernel_rfl) (by kernel_rfl) (by kernel_rfl) (fun _ _ _ h => h) (Or.inl ⟨by rfl, ?_⟩) hHeld ?_
      rotate_left
      · (intro w hSw; obtain ⟨⟨g0, g1, g2⟩, h0, h1, h2⟩ := HK.out _ hSw; go_simp <;> with_reducible rfl)
      try simp only [Act.put, List.setIfInBounds_toArray, List.set_cons_zero, List.set_cons_succ]
      refine wpAnyH_ready (rs := [10]) (by kernel_rfl) (by simp) ?_
      refine AllReadyH.cons (o := { dst := some 22, op := _, type := _, pos := _, after := _, guard := _ }) rfl (fun K hK => ?_) AllReadyH.nil
      go_simp
      rw [hF, Oper.upon_enter]
      refine (HP.out _ hHeld).mono ?_
      rintro e u1 ⟨rfl, hk1⟩
      have hKeep := since_step hHeld hk1
      rw [HQ.out]
      go_wp2_with fail
      refine hK.out _ _ (by (try dsimp only); exact hKeep) (fun hHeld => ?_)
      clear hK K hKeep
      try simp only [Act.put, List.setIfInBounds_toArray, List.set_cons_zero, List.set_cons_succ]
      refine wpAnyH_take (i := 11) (oi := { dst := some 23, op := _, type := _, pos := _, after := _, guard := _ }) (v := ?_) rfl (by kernel_rfl) (by kernel_rfl) (by kernel_rfl) (fun _ _ _ h => h) (Or.inl ⟨by rfl, ?_⟩) hHeld ?_
      rotate_left
      · (intro w hSw; obtain ⟨⟨g0, g1, g2⟩, h0, h1, h2⟩ := HK.out _ hSw; go_simp <;> with_reducible rfl)
      try simp only [Act.put, List.setIfInBounds_toArray, List.set_cons_zero, List.set_cons_succ]
      refine wpAnyH_done (by kernel_rfl) ?_ _
      have hB2 := since_step hB hHeld
      cases q with
      | true =>
        go_wp2_with fail
        go_roundw
        case rel => exact ⟨k + 1, by go_num, by omega, by simpa using HXq.out, hB2⟩
        case measure => simp [intOf]; omega
      | false =>
        have hr : risingL ah l = false := by simpa using HXq.out
        have HR := Lib.hid hr
        clear hr
        go_wp2_with fail
        go_ret
        exact ⟨retB HR.out.symm, hB2⟩
    · have hrt : risingL ah l = true := (risingL_iff ah l).2 fun j hj => hno j hj (by omega)
      have HR := Lib.hid hrt
      have hge : ¬ ((k : Int) + 1 < (l.length : Int)) := by omega
      clear hno hrt
      go_wp2_with fail
      go_ret
      exact ⟨retB HR.out.symm, hB⟩
end Go.Proofs.YtahdmomadbbhoaaGreat
end
section
namespace Go.Proofs.YtahdmomadbbhoaaGreat
open Go.ChangeShapes Go.WideShapes Go.ChangeAt Go.RowKit
set_option linter.unusedVariables false
set_option linter.unusedSimpArgs false

structure Un where
  (ac : Int) (cl : Int)
deriving DecidableEq
def Un.cells (g : Un) : List Value := [.int .i64 g.ac, .int .i64 g.cl]
def Un.val (g : Un) : Value := .agg #[.int .i64 g.ac, .int .i64 g.cl]
def Un.zero : Un := ⟨0, 0⟩
theorem Un.len (g : Un) : g.cells.length = 2 := rfl
theorem Un.one (g : Un) : ∀ u ∈ g.cells, u.oneCell' = true := by
  intro u hu
  simp only [Un.cells, List.mem_cons, List.not_mem_nil, or_false] at hu
  rcases hu with h | h <;> subst h <;> rfl
def Un.at (g : Un) (w : World) (b o : Nat) : Prop :=
  w.cell? ⟨b, o, none⟩ = some (.int .i64 g.ac) ∧ w.cell? ⟨b, o + 1, none⟩ = some (.int .i64 g.cl)
theorem Un.at_of {w : World} {b o : Nat} {g : Un} (h : ∀ j u, g.cells[j]? = some u → w.cell? ⟨b, o + j, none⟩ = some u) : g.at w b o :=
  ⟨h 0 _ rfl, h 1 _ rfl⟩
theorem Un.at_keep {w w' : World} {b o : Nat} {g : Un} (h : g.at w b o) (k : ∀ i, w'.cell? ⟨b, i, none⟩ = w.cell? ⟨b, i, none⟩) : g.at w' b o := by
  unfold Un.at at *
  simp only [k]
  exact h
def Un.Tells (F : Nat) (caps : Array Value) (p : Un → Bool) (B : Nat) (w : World) : Prop :=
  ∀ (g : Un) (W : World), Below B w W → Calls Tryz.prog F (#[g.val] ++ caps) W fun e w' => e = .returned (.bool (p g)) ∧ Below W.heap.size W w'
theorem Un.Tells.below {F : Nat} {caps : Array Value} {p : Un → Bool} {B : Nat} {w w1 : World} (h : Un.Tells F caps p B w) (hb : Below B w w1) {C : Nat} (hC : B ≤ C) : Un.Tells F caps p C w1 :=
  fun g W hW => h g W (hb.trans (hW.mono hC))
end Go.Proofs.YtahdmomadbbhoaaGreat
end
