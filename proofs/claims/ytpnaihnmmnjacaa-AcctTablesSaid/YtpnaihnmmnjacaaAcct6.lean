/-
  Layer 15, sixth part: SameOne, Bind of both sides (laid by gen_acct6.py).
-/
import Derived.Test.YtpnaihnmmnjacaaAcct5
import Derived.Test.YtpnaihnmmnjacaaRowM
namespace Go.Proofs.Ytpnaihnmmnjacaa
open Go.ChangeShapes Go.WideShapes Go.ChangeAt Go.RowKit
set_option linter.unusedVariables false
set_option linter.unusedSimpArgs false

def inR (L : List Nt) (c : Int) : List Nt := putR ahN L ⟨c⟩
open Classical in
/-- why no client is bound, or nought -/
noncomputable def bindE (id mem kind : Int) (L : List Nt) (c : Int) : Int :=
  if ¬ okC id mem kind L then 2 else if kind = 1 then 17 else if isCl c = false then 2 else if inL c L = true then 12 else if kind = 4 ∧ 0 < L.length then 10 else 0
def BindRes (B : Nat) (w' : World) (e : Ending) (id mem kind E : Int) (L : List Nt) : Prop :=
  (E ≠ 0 ∧ e = .returned (.tuple #[.agg #[.int .i64 0, .int .i64 0, .int .i64 0, .slice none 0 0], .int .i64 E])) ∨
  (E = 0 ∧ ∃ A' c', e = .returned (.tuple #[.agg #[.int .i64 id, .int .i64 mem, .int .i64 kind, .slice A' L.length c'], .int .i64 0]) ∧ w'.ownsRow B 3 1 (.slice A' L.length c') L.length (rc Nt.cells L))
theorem own_setFar {w : World} {B e size n : Nat} {v : Value} {xs : List Value} (h : w.ownsRow B e size v n xs) {p : Addr} (hp : p.block < B) (u : Value) : (w.setCell p u).ownsRow B e size v n xs := by
  obtain ⟨h1, h2⟩ := h
  refine ⟨h1, ?_⟩
  rcases h2 with h2 | ⟨g, cap, cur, hv, hg, hh, hr⟩
  · exact .inl h2
  · refine .inr ⟨g, cap, cur, hv, hg, ?_, hr⟩
    have hne : p.block ≠ g := by omega
    rw [← hh]
    unfold World.setCell
    simp [Array.getElem?_modify, hne]
structure Bz (w : World) (b : Nat) : Prop where
  bk : Bk w b #[.int .i64 0, .int .i64 0, .int .i64 0, .slice none 0 0]
  fz : ∀ i, w.frozen? ⟨b, i, none⟩ = false
theorem Bz.new (w : World) : Bz (w.alloc (.cells #[.int .i64 0, .int .i64 0, .int .i64 0, .slice none 0 0] 24)) w.heap.size := ⟨Bk.new w _ _, fun i => by simp⟩
theorem Bz.below {w w' : World} {b : Nat} (h : Bz w b) (hb : Below w.heap.size w w') : Bz w' b := ⟨h.bk.below hb, fun i => by rw [hb.frozen (p := ⟨b, i, none⟩) h.bk.1]; exact h.fz i⟩
theorem Bz.got {w : World} {b : Nat} (h : Bz w b) : w.cell? ⟨b, 0, none⟩ = some (.int .i64 0) ∧ w.cell? ⟨b, 1, none⟩ = some (.int .i64 0) ∧ w.cell? ⟨b, 2, none⟩ = some (.int .i64 0) ∧ w.cell? ⟨b, 3, none⟩ = some (.slice none 0 0) := by
  have h1 := h.bk.2
  exact ⟨h1 0, h1 1, h1 2, h1 3⟩
structure Af (w : World) (b : Nat) (g : Ac) : Prop where
  bx : Ac.Bx w b g
  fz : ∀ i, w.frozen? ⟨b, i, none⟩ = false
theorem Af.below {w w' : World} {b : Nat} {g : Ac} (h : Af w b g) (hb : Below w.heap.size w w') : Af w' b g := ⟨h.bx.below hb, fun i => by rw [hb.frozen (p := ⟨b, i, none⟩) h.bx.lt]; exact h.fz i⟩

set_option maxHeartbeats 4000000 in
set_option maxRecDepth 100000 in
theorem sameone_self (id mem kind : Int) (A A2 : Option Addr) (cap cap2 : Nat) (L : List Nt) (w : World) (hl : L.length ≤ 1000000) (hs : Sl w A (rc Nt.cells L)) (hs2 : Sl w A2 (rc Nt.cells L)) :
    Calls Try.prog 24 #[.agg #[.int .i64 id, .int .i64 mem, .int .i64 kind, .slice A L.length cap], .agg #[.int .i64 id, .int .i64 mem, .int .i64 kind, .slice A2 L.length cap2]] w fun e w' => e = .returned (.bool true) ∧ Below w.heap.size w w' := by
  have hB0 := since_alloc (since_alloc (Below.refl _ w) (.cells #[.int .i64 id, .int .i64 mem, .int .i64 kind, .slice A L.length cap] 24)) (.cells #[.int .i64 id, .int .i64 mem, .int .i64 kind, .slice A2 L.length cap2] 24)
  have hV0 : Ac.Bx ((w.alloc (.cells #[.int .i64 id, .int .i64 mem, .int .i64 kind, .slice A L.length cap] 24)).alloc (.cells #[.int .i64 id, .int .i64 mem, .int .i64 kind, .slice A2 L.length cap2] 24)) w.heap.size ⟨id, mem, kind, A, L.length, cap⟩ := (Ac.Bx.new w ⟨id, mem, kind, A, L.length, cap⟩).below ((Below.refl _ _).alloc (Nat.le_refl _) (.cells #[.int .i64 id, .int .i64 mem, .int .i64 kind, .slice A2 L.length cap2] 24))
  have hU0 : Ac.Bx ((w.alloc (.cells #[.int .i64 id, .int .i64 mem, .int .i64 kind, .slice A L.length cap] 24)).alloc (.cells #[.int .i64 id, .int .i64 mem, .int .i64 kind, .slice A2 L.length cap2] 24)) (w.heap.size + 1) ⟨id, mem, kind, A2, L.length, cap2⟩ := by have h := Ac.Bx.new (w.alloc (.cells #[.int .i64 id, .int .i64 mem, .int .i64 kind, .slice A L.length cap] 24)) ⟨id, mem, kind, A2, L.length, cap2⟩; rw [World.size_alloc] at h; exact h
  have hs0 := (hs.alloc (.cells #[.int .i64 id, .int .i64 mem, .int .i64 kind, .slice A L.length cap] 24)).alloc (.cells #[.int .i64 id, .int .i64 mem, .int .i64 kind, .slice A2 L.length cap2] 24)
  have hs1 := (hs2.alloc (.cells #[.int .i64 id, .int .i64 mem, .int .i64 kind, .slice A L.length cap] 24)).alloc (.cells #[.int .i64 id, .int .i64 mem, .int .i64 kind, .slice A2 L.length cap2] 24)
  go_enter Try.func24, Try.ntmps24
  go_upto_region 1 with fail
  generalize hWW : (w.alloc (.cells #[.int .i64 id, .int .i64 mem, .int .i64 kind, .slice A L.length cap] 24)).alloc (.cells #[.int .i64 id, .int .i64 mem, .int .i64 kind, .slice A2 L.length cap2] 24) = W at *
  clear hWW hs hs2
  obtain ⟨q0, q1, q2, q3⟩ := hV0.got
  obtain ⟨r0, r1, r2, r3⟩ := hU0.got
  simp only at q0 q1 q2 q3 r0 r1 r2 r3
  go_wp2_with fail
  go_loopw [5] (fun i wr => ∃ k : Nat, k ≤ L.length ∧ i = .int .i64 k ∧ Below W.heap.size W wr) (fun i _ => L.length - (intOf i).toNat)
  case atStart => exact ⟨0, by omega, rfl, Below.refl _ _⟩
  case round =>
    obtain ⟨k, hk, rfl, hB⟩ := hrel
    have hBw := hB0.trans (hB.mono hB0.size)
    have HV : Hid (∀ V, Below wr.heap.size wr V → Ac.Bx V w.heap.size ⟨id, mem, kind, A, L.length, cap⟩) := Lib.hid fun V hV => (hV0.below hB).below hV
    have HU : Hid (∀ V, Below wr.heap.size wr V → Ac.Bx V (w.heap.size + 1) ⟨id, mem, kind, A2, L.length, cap2⟩) := Lib.hid fun V hV => (hU0.below hB).below hV
    by_cases hlt : k < L.length
    · obtain ⟨b, o, rfl, hbw, hg⟩ := (hs0.below hB).nt hlt
      obtain ⟨b2, o2, rfl, hbw2, hg2⟩ := (hs1.below hB).nt hlt
      have HX : Hid (∀ V, Below wr.heap.size wr V → V.cell? ⟨b, o + k, none⟩ = some (.int .i64 L[k].n)) := Lib.hid fun V hV => (hV.cell (p := ⟨b, o + k, none⟩) hbw).trans hg.1
      have HY : Hid (∀ V, Below wr.heap.size wr V → V.cell? ⟨b2, o2 + k, none⟩ = some (.int .i64 L[k].n)) := Lib.hid fun V hV => (hV.cell (p := ⟨b2, o2 + k, none⟩) hbw2).trans hg2.1
      obtain ⟨p0, p1, p2, p3⟩ := (HV.out _ (Below.refl _ _)).got
      simp only at p0 p1 p2 p3
      have hlk : (k : Int) < (L.length : Int) := by omega
      have hge : (0 : Int) ≤ (k : Int) := by omega
      clear hg hg2 hbw hbw2 hs0 hs1 hV0 hU0 q0 q1 q2 q3 r0 r1 r2 r3
      generalize L[k].n = nn at *
      have hnn : (nn != nn) = false := by simp
      go_wp2_with fail
      refine wp_region_held_drew (S := (fun V => Below wr.heap.size wr V)) (by kernel_rfl) (by exact (Below.refl _ _).drew) (fun hHeld => ?_)
      refine wpAnyH_take (i := 0) (oi := { dst := some 41, op := _, type := _, pos := _, after := _, guard := _ }) (v := ?_) rfl (by kernel_rfl) (by kernel_rfl) (by kernel_rfl) (fun _ _ _ h => h) (Or.inl ⟨by rfl, ?_⟩) hHeld ?_
      rotate_left
      · (intro w hSw; obtain ⟨q0, q1, q2, q3⟩ := (HV.out _ hSw).got; simp only at q0 q1 q2 q3; obtain ⟨r0, r1, r2, r3⟩ := (HU.out _ hSw).got; simp only at r0 r1 r2 r3; have n0 := HX.out _ hSw; have m0 := HY.out _ hSw; go_simp <;> with_reducible rfl)
      try simp only [Act.put, List.setIfInBounds_toArray, List.set_cons_zero, List.set_cons_succ]
      refine wpAnyH_take (i := 1) (oi := { dst := some 42, op := _, type := _, pos := _, after := _, guard := _ }) (v := ?_) rfl (by kernel_rfl) (by kernel_rfl) (by kernel_rfl) (fun _ _ _ h => h) (Or.inl ⟨by rfl, ?_⟩) hHeld ?_
      rotate_left
      · (intro w hSw; obtain ⟨q0, q1, q2, q3⟩ := (HV.out _ hSw).got; simp only at q0 q1 q2 q3; obtain ⟨r0, r1, r2, r3⟩ := (HU.out _ hSw).got; simp only at r0 r1 r2 r3; have n0 := HX.out _ hSw; have m0 := HY.out _ hSw; go_simp <;> with_reducible rfl)
      try simp only [Act.put, List.setIfInBounds_toArray, List.set_cons_zero, List.set_cons_succ]
      refine wpAnyH_take (i := 2) (oi := { dst := some 43, op := _, type := _, pos := _, after := _, guard := _ }) (v := ?_) rfl (by kernel_rfl) (by kernel_rfl) (by kernel_rfl) (fun _ _ _ h => h) (Or.inl ⟨by rfl, ?_⟩) hHeld ?_
      rotate_left
      · (intro w hSw; obtain ⟨q0, q1, q2, q3⟩ := (HV.out _ hSw).got; simp only at q0 q1 q2 q3; obtain ⟨r0, r1, r2, r3⟩ := (HU.out _ hSw).got; simp only at r0 r1 r2 r3; have n0 := HX.out _ hSw; have m0 := HY.out _ hSw; go_simp <;> with_reducible rfl)
      try simp only [Act.put, List.setIfInBounds_toArray, List.set_cons_zero, List.set_cons_succ]
      refine wpAnyH_take (i := 3) (oi := { dst := some 44, op := _, type := _, pos := _, after := _, guard := _ }) (v := ?_) rfl (by kernel_rfl) (by kernel_rfl) (by kernel_rfl) (fun _ _ _ h => h) (Or.inl ⟨by rfl, ?_⟩) hHeld ?_
      rotate_left
      · (intro w hSw; obtain ⟨q0, q1, q2, q3⟩ := (HV.out _ hSw).got; simp only at q0 q1 q2 q3; obtain ⟨r0, r1, r2, r3⟩ := (HU.out _ hSw).got; simp only at r0 r1 r2 r3; have n0 := HX.out _ hSw; have m0 := HY.out _ hSw; go_simp <;> with_reducible rfl)
      try simp only [Act.put, List.setIfInBounds_toArray, List.set_cons_zero, List.set_cons_succ]
      refine wpAnyH_take (i := 4) (oi := { dst := some 45, op := _, type := _, pos := _, after := _, guard := _ }) (v := ?_) rfl (by kernel_rfl) (by kernel_rfl) (by kernel_rfl) (fun _ _ _ h => h) (Or.inl ⟨by rfl, ?_⟩) hHeld ?_
      rotate_left
      · (intro w hSw; obtain ⟨q0, q1, q2, q3⟩ := (HV.out _ hSw).got; simp only at q0 q1 q2 q3; obtain ⟨r0, r1, r2, r3⟩ := (HU.out _ hSw).got; simp only at r0 r1 r2 r3; have n0 := HX.out _ hSw; have m0 := HY.out _ hSw; go_simp <;> with_reducible rfl)
      try simp only [Act.put, List.setIfInBounds_toArray, List.set_cons_zero, List.set_cons_succ]
      refine wpAnyH_take (i := 5) (oi := { dst := some 46, op := _, type := _, pos := _, after := _, guard := _ }) (v := ?_) rfl (by kernel_rfl) (by kernel_rfl) (by kernel_rfl) (fun _ _ _ h => h) (Or.inl ⟨by rfl, ?_⟩) hHeld ?_
      rotate_left
      · (intro w hSw; obtain ⟨q0, q1, q2, q3⟩ := (HV.out _ hSw).got; simp only at q0 q1 q2 q3; obtain ⟨r0, r1, r2, r3⟩ := (HU.out _ hSw).got; simp only at r0 r1 r2 r3; have n0 := HX.out _ hSw; have m0 := HY.out _ hSw; go_simp <;> with_reducible rfl)
      try simp only [Act.put, List.setIfInBounds_toArray, List.set_cons_zero, List.set_cons_succ]
      refine wpAnyH_take (i := 6) (oi := { dst := some 47, op := _, type := _, pos := _, after := _, guard := _ }) (v := ?_) rfl (by kernel_rfl) (by kernel_rfl) (by kernel_rfl) (fun _ _ _ h => h) (Or.inl ⟨by rfl, ?_⟩) hHeld ?_
      rotate_left
      · (intro w hSw; obtain ⟨q0, q1, q2, q3⟩ := (HV.out _ hSw).got; simp only at q0 q1 q2 q3; obtain ⟨r0, r1, r2, r3⟩ := (HU.out _ hSw).got; simp only at r0 r1 r2 r3; have n0 := HX.out _ hSw; have m0 := HY.out _ hSw; go_simp <;> with_reducible rfl)
      try simp only [Act.put, List.setIfInBounds_toArray, List.set_cons_zero, List.set_cons_succ]
      refine wpAnyH_take (i := 7) (oi := { dst := some 48, op := _, type := _, pos := _, after := _, guard := _ }) (v := ?_) rfl (by kernel_rfl) (by kernel_rfl) (by kernel_rfl) (fun _ _ _ h => h) (Or.inl ⟨by rfl, ?_⟩) hHeld ?_
      rotate_left
      · (intro w hSw; obtain ⟨q0, q1, q2, q3⟩ := (HV.out _ hSw).got; simp only at q0 q1 q2 q3; obtain ⟨r0, r1, r2, r3⟩ := (HU.out _ hSw).got; simp only at r0 r1 r2 r3; have n0 := HX.out _ hSw; have m0 := HY.out _ hSw; go_simp <;> with_reducible rfl)
      try simp only [Act.put, List.setIfInBounds_toArray, List.set_cons_zero, List.set_cons_succ]
      refine wpAnyH_take (i := 8) (oi := { dst := some 49, op := _, type := _, pos := _, after := _, guard := _ }) (v := ?_) rfl (by kernel_rfl) (by kernel_rfl) (by kernel_rfl) (fun _ _ _ h => h) (Or.inl ⟨by rfl, ?_⟩) hHeld ?_
      rotate_left
      · (intro w hSw; obtain ⟨q0, q1, q2, q3⟩ := (HV.out _ hSw).got; simp only at q0 q1 q2 q3; obtain ⟨r0, r1, r2, r3⟩ := (HU.out _ hSw).got; simp only at r0 r1 r2 r3; have n0 := HX.out _ hSw; have m0 := HY.out _ hSw; go_simp <;> with_reducible rfl)
      try simp only [Act.put, List.setIfInBounds_toArray, List.set_cons_zero, List.set_cons_succ]
      refine wpAnyH_take (i := 9) (oi := { dst := some 50, op := _, type := _, pos := _, after := _, guard := _ }) (v := ?_) rfl (by kernel_rfl) (by kernel_rfl) (by kernel_rfl) (fun _ _ _ h => h) (Or.inl ⟨by rfl, ?_⟩) hHeld ?_
      rotate_left
      · (intro w hSw; obtain ⟨q0, q1, q2, q3⟩ := (HV.out _ hSw).got; simp only at q0 q1 q2 q3; obtain ⟨r0, r1, r2, r3⟩ := (HU.out _ hSw).got; simp only at r0 r1 r2 r3; have n0 := HX.out _ hSw; have m0 := HY.out _ hSw; go_simp <;> with_reducible rfl)
      try simp only [Act.put, List.setIfInBounds_toArray, List.set_cons_zero, List.set_cons_succ]
      refine wpAnyH_take (i := 10) (oi := { dst := some 51, op := _, type := _, pos := _, after := _, guard := _ }) (v := ?_) rfl (by kernel_rfl) (by kernel_rfl) (by kernel_rfl) (fun _ _ _ h => h) (Or.inl ⟨by rfl, ?_⟩) hHeld ?_
      rotate_left
      · (intro w hSw; obtain ⟨q0, q1, q2, q3⟩ := (HV.out _ hSw).got; simp only at q0 q1 q2 q3; obtain ⟨r0, r1, r2, r3⟩ := (HU.out _ hSw).got; simp only at r0 r1 r2 r3; have n0 := HX.out _ hSw; have m0 := HY.out _ hSw; go_simp <;> with_reducible rfl)
      try simp only [Act.put, List.setIfInBounds_toArray, List.set_cons_zero, List.set_cons_succ]
      refine wpAnyH_done (by kernel_rfl) ?_ _
      have hB2 := hB.trans (hHeld.mono hB.size)
      go_wp2_with fail
      go_roundw
      case rel => exact ⟨k + 1, by omega, by go_num, hB2⟩
      case measure => simp [intOf]; omega
    · obtain rfl : k = L.length := by omega
      obtain ⟨p0, p1, p2, p3⟩ := (HV.out _ (Below.refl _ _)).got
      simp only at p0 p1 p2 p3
      go_wp2_with fail
      go_ret
      exact ⟨rfl, hBw⟩

set_option maxHeartbeats 8000000 in
set_option maxRecDepth 100000 in
theorem bind_any (id mem kind : Int) (A : Option Addr) (cap : Nat) (L : List Nt) (c : Int) (w : World) (hl : L.length ≤ 900000) (hs : Sl w A (rc Nt.cells L)) :
    Calls Try.prog 22 #[.agg #[.int .i64 id, .int .i64 mem, .int .i64 kind, .slice A L.length cap], .int .i64 c] w fun e w' => BindRes w.heap.size w' e id mem kind (bindE id mem kind L c) (inR L c) ∧ Below w.heap.size w w' := by
  have hB0 := since_alloc (since_alloc (Below.refl _ w) (.cells #[.int .i64 id, .int .i64 mem, .int .i64 kind, .slice A L.length cap] 24)) (.cells #[.int .i64 0, .int .i64 0, .int .i64 0, .slice none 0 0] 24)
  have hV0 : Af ((w.alloc (.cells #[.int .i64 id, .int .i64 mem, .int .i64 kind, .slice A L.length cap] 24)).alloc (.cells #[.int .i64 0, .int .i64 0, .int .i64 0, .slice none 0 0] 24)) w.heap.size ⟨id, mem, kind, A, L.length, cap⟩ := ⟨(Ac.Bx.new w ⟨id, mem, kind, A, L.length, cap⟩).below ((Below.refl _ _).alloc (Nat.le_refl _) (.cells #[.int .i64 0, .int .i64 0, .int .i64 0, .slice none 0 0] 24)), fun i => by simp⟩
  have hZ0 : Bz ((w.alloc (.cells #[.int .i64 id, .int .i64 mem, .int .i64 kind, .slice A L.length cap] 24)).alloc (.cells #[.int .i64 0, .int .i64 0, .int .i64 0, .slice none 0 0] 24)) (w.heap.size + 1) := by have h := Bz.new (w.alloc (.cells #[.int .i64 id, .int .i64 mem, .int .i64 kind, .slice A L.length cap] 24)); rw [World.size_alloc] at h; exact h
  have hs0 := (hs.alloc (.cells #[.int .i64 id, .int .i64 mem, .int .i64 kind, .slice A L.length cap] 24)).alloc (.cells #[.int .i64 0, .int .i64 0, .int .i64 0, .slice none 0 0] 24)
  clear hs
  have HCK := Lib.hid (fun V h => check_any id mem kind A cap L V (by omega) h)
  have HCL := Lib.hid (fun V => isClient_any c V)
  have HIN := Lib.hid (fun V h => has_int A cap L c V (by omega) h)
  by_cases hok : okC id mem kind L
  rotate_left
  · have HE : Hid (chkE id mem kind L = 2) := Lib.hid (chk_bad hok)
    have HR : Hid (bindE id mem kind L c = 2) := Lib.hid (by rw [bindE, if_pos hok])
    clear hok
    go_enter Try.func22, Try.ntmps22
    go_upto_region 1 with fail
    generalize hWW : (w.alloc (.cells #[.int .i64 id, .int .i64 mem, .int .i64 kind, .slice A L.length cap] 24)).alloc (.cells #[.int .i64 0, .int .i64 0, .int .i64 0, .slice none 0 0] 24) = w0 at *
    clear hWW
    have hb0 := Below.refl w0.heap.size w0
    have hcs := @cell_set
    obtain ⟨q0, q1, q2, q3⟩ := (hV0.bx).got
    simp only at q0 q1 q2 q3
    obtain ⟨z0, z1, z2, z3⟩ := hZ0.got
    have fq := hV0.fz
    have fz := hZ0.fz
    have lq := hV0.bx.lt
    have lz := hZ0.bk.1
    go_wp2_with fail
    refine (HCK.out _ hs0).mono ?_
    rw [HE.out]
    rintro e w1 ⟨rfl, hb⟩
    have hV1 := hV0.below hb
    have hZ1 := hZ0.below hb
    have hs1 := hs0.below hb
    have hB1 := since_step hB0 hb
    clear hb
    clear q0 q1 q2 q3 z0 z1 z2 z3 fq fz lq lz
    obtain ⟨q0, q1, q2, q3⟩ := (hV1.bx).got
    simp only at q0 q1 q2 q3
    obtain ⟨z0, z1, z2, z3⟩ := hZ1.got
    have fq := hV1.fz
    have fz := hZ1.fz
    have lq := hV1.bx.lt
    have lz := hZ1.bk.1
    go_wp2_with fail
    refine bodyPost_ret (v := .tuple #[.agg #[.int .i64 0, .int .i64 0, .int .i64 0, .slice none 0 0], .int .i64 2]) ?_ rfl ⟨?_, ?_⟩
    · simp [results, Try.results22, go_sem, z0, z1, z2, z3, fz]
    · rw [HR.out]; exact .inl ⟨by decide, rfl⟩
    · repeat' (first | with_reducible exact hB1 | with_reducible refine Below.setCell ?_ ?_ _ | with_reducible refine Below.alloc ?_ ?_ _)
      all_goals first | (simp; done) | (simp; omega)
  have HE : Hid (chkE id mem kind L = 0) := Lib.hid (chk_ok hok)
  by_cases hk : kind = 1
  · have hkb : (kind == 1) = true := by simpa using hk
    have HR : Hid (bindE id mem kind L c = 17) := Lib.hid (by rw [bindE, if_neg (fun h => h hok), if_pos hk])
    clear hok hk
    go_enter Try.func22, Try.ntmps22
    go_upto_region 1 with fail
    generalize hWW : (w.alloc (.cells #[.int .i64 id, .int .i64 mem, .int .i64 kind, .slice A L.length cap] 24)).alloc (.cells #[.int .i64 0, .int .i64 0, .int .i64 0, .slice none 0 0] 24) = w0 at *
    clear hWW
    have hb0 := Below.refl w0.heap.size w0
    have hcs := @cell_set
    obtain ⟨q0, q1, q2, q3⟩ := (hV0.bx).got
    simp only at q0 q1 q2 q3
    obtain ⟨z0, z1, z2, z3⟩ := hZ0.got
    have fq := hV0.fz
    have fz := hZ0.fz
    have lq := hV0.bx.lt
    have lz := hZ0.bk.1
    go_wp2_with fail
    refine (HCK.out _ hs0).mono ?_
    rw [HE.out]
    rintro e w1 ⟨rfl, hb⟩
    have hV1 := hV0.below hb
    have hZ1 := hZ0.below hb
    have hs1 := hs0.below hb
    have hB1 := since_step hB0 hb
    clear hb
    clear q0 q1 q2 q3 z0 z1 z2 z3 fq fz lq lz
    obtain ⟨q0, q1, q2, q3⟩ := (hV1.bx).got
    simp only at q0 q1 q2 q3
    obtain ⟨z0, z1, z2, z3⟩ := hZ1.got
    have fq := hV1.fz
    have fz := hZ1.fz
    have lq := hV1.bx.lt
    have lz := hZ1.bk.1
    go_wp2_with fail
    refine bodyPost_ret (v := .tuple #[.agg #[.int .i64 0, .int .i64 0, .int .i64 0, .slice none 0 0], .int .i64 17]) ?_ rfl ⟨?_, ?_⟩
    · simp [results, Try.results22, go_sem, z0, z1, z2, z3, fz]
    · rw [HR.out]; exact .inl ⟨by decide, rfl⟩
    · repeat' (first | with_reducible exact hB1 | with_reducible refine Below.setCell ?_ ?_ _ | with_reducible refine Below.alloc ?_ ?_ _)
      all_goals first | (simp; done) | (simp; omega)
  have hkb : (kind == 1) = false := by simpa using hk
  cases hc : isCl c with
  | false =>
    have HR : Hid (bindE id mem kind L c = 2) := Lib.hid (by rw [bindE, if_neg (fun h => h hok), if_neg hk, if_pos hc])
    have HC := Lib.hid hc
    clear hok hk hc
    go_enter Try.func22, Try.ntmps22
    go_upto_region 1 with fail
    generalize hWW : (w.alloc (.cells #[.int .i64 id, .int .i64 mem, .int .i64 kind, .slice A L.length cap] 24)).alloc (.cells #[.int .i64 0, .int .i64 0, .int .i64 0, .slice none 0 0] 24) = w0 at *
    clear hWW
    have hb0 := Below.refl w0.heap.size w0
    have hcs := @cell_set
    obtain ⟨q0, q1, q2, q3⟩ := (hV0.bx).got
    simp only at q0 q1 q2 q3
    obtain ⟨z0, z1, z2, z3⟩ := hZ0.got
    have fq := hV0.fz
    have fz := hZ0.fz
    have lq := hV0.bx.lt
    have lz := hZ0.bk.1
    go_wp2_with fail
    refine (HCK.out _ hs0).mono ?_
    rw [HE.out]
    rintro e w1 ⟨rfl, hb⟩
    have hV1 := hV0.below hb
    have hZ1 := hZ0.below hb
    have hs1 := hs0.below hb
    have hB1 := since_step hB0 hb
    clear hb
    clear q0 q1 q2 q3 z0 z1 z2 z3 fq fz lq lz
    obtain ⟨q0, q1, q2, q3⟩ := (hV1.bx).got
    simp only at q0 q1 q2 q3
    obtain ⟨z0, z1, z2, z3⟩ := hZ1.got
    have fq := hV1.fz
    have fz := hZ1.fz
    have lq := hV1.bx.lt
    have lz := hZ1.bk.1
    go_wp2_with fail
    refine (HCL.out _).mono ?_
    rw [HC.out]
    rintro e w2 ⟨rfl, hb⟩
    have hV2 := hV1.below hb
    have hZ2 := hZ1.below hb
    have hs2 := hs1.below hb
    have hB2 := since_step hB1 hb
    clear hb
    clear q0 q1 q2 q3 z0 z1 z2 z3 fq fz lq lz
    obtain ⟨q0, q1, q2, q3⟩ := (hV2.bx).got
    simp only at q0 q1 q2 q3
    obtain ⟨z0, z1, z2, z3⟩ := hZ2.got
    have fq := hV2.fz
    have fz := hZ2.fz
    have lq := hV2.bx.lt
    have lz := hZ2.bk.1
    go_wp2_with fail
    refine bodyPost_ret (v := .tuple #[.agg #[.int .i64 0, .int .i64 0, .int .i64 0, .slice none 0 0], .int .i64 2]) ?_ rfl ⟨?_, ?_⟩
    · simp [results, Try.results22, go_sem, z0, z1, z2, z3, fz]
    · rw [HR.out]; exact .inl ⟨by decide, rfl⟩
    · repeat' (first | with_reducible exact hB2 | with_reducible refine Below.setCell ?_ ?_ _ | with_reducible refine Below.alloc ?_ ?_ _)
      all_goals first | (simp; done) | (simp; omega)
  | true =>
    have HC := Lib.hid hc
    cases hi : inL c L with
    | true =>
      have HR : Hid (bindE id mem kind L c = 12) := Lib.hid (by rw [bindE, if_neg (fun h => h hok), if_neg hk, if_neg (by rw [hc]; decide), if_pos hi])
      have HI := Lib.hid hi
      clear hok hk hc hi
      go_enter Try.func22, Try.ntmps22
      go_upto_region 1 with fail
      generalize hWW : (w.alloc (.cells #[.int .i64 id, .int .i64 mem, .int .i64 kind, .slice A L.length cap] 24)).alloc (.cells #[.int .i64 0, .int .i64 0, .int .i64 0, .slice none 0 0] 24) = w0 at *
      clear hWW
      have hb0 := Below.refl w0.heap.size w0
      have hcs := @cell_set
      obtain ⟨q0, q1, q2, q3⟩ := (hV0.bx).got
      simp only at q0 q1 q2 q3
      obtain ⟨z0, z1, z2, z3⟩ := hZ0.got
      have fq := hV0.fz
      have fz := hZ0.fz
      have lq := hV0.bx.lt
      have lz := hZ0.bk.1
      go_wp2_with fail
      refine (HCK.out _ hs0).mono ?_
      rw [HE.out]
      rintro e w1 ⟨rfl, hb⟩
      have hV1 := hV0.below hb
      have hZ1 := hZ0.below hb
      have hs1 := hs0.below hb
      have hB1 := since_step hB0 hb
      clear hb
      clear q0 q1 q2 q3 z0 z1 z2 z3 fq fz lq lz
      obtain ⟨q0, q1, q2, q3⟩ := (hV1.bx).got
      simp only at q0 q1 q2 q3
      obtain ⟨z0, z1, z2, z3⟩ := hZ1.got
      have fq := hV1.fz
      have fz := hZ1.fz
      have lq := hV1.bx.lt
      have lz := hZ1.bk.1
      go_wp2_with fail
      refine (HCL.out _).mono ?_
      rw [HC.out]
      rintro e w2 ⟨rfl, hb⟩
      have hV2 := hV1.below hb
      have hZ2 := hZ1.below hb
      have hs2 := hs1.below hb
      have hB2 := since_step hB1 hb
      clear hb
      clear q0 q1 q2 q3 z0 z1 z2 z3 fq fz lq lz
      obtain ⟨q0, q1, q2, q3⟩ := (hV2.bx).got
      simp only at q0 q1 q2 q3
      obtain ⟨z0, z1, z2, z3⟩ := hZ2.got
      have fq := hV2.fz
      have fz := hZ2.fz
      have lq := hV2.bx.lt
      have lz := hZ2.bk.1
      go_wp2_with fail
      refine (HIN.out _ hs2).mono ?_
      rw [HI.out]
      rintro e w3 ⟨rfl, hb⟩
      have hV3 := hV2.below hb
      have hZ3 := hZ2.below hb
      have hs3 := hs2.below hb
      have hB3 := since_step hB2 hb
      clear hb
      clear q0 q1 q2 q3 z0 z1 z2 z3 fq fz lq lz
      obtain ⟨q0, q1, q2, q3⟩ := (hV3.bx).got
      simp only at q0 q1 q2 q3
      obtain ⟨z0, z1, z2, z3⟩ := hZ3.got
      have fq := hV3.fz
      have fz := hZ3.fz
      have lq := hV3.bx.lt
      have lz := hZ3.bk.1
      go_wp2_with fail
      refine bodyPost_ret (v := .tuple #[.agg #[.int .i64 0, .int .i64 0, .int .i64 0, .slice none 0 0], .int .i64 12]) ?_ rfl ⟨?_, ?_⟩
      · simp [results, Try.results22, go_sem, z0, z1, z2, z3, fz]
      · rw [HR.out]; exact .inl ⟨by decide, rfl⟩
      · repeat' (first | with_reducible exact hB3 | with_reducible refine Below.setCell ?_ ?_ _ | with_reducible refine Below.alloc ?_ ?_ _)
        all_goals first | (simp; done) | (simp; omega)
    | false =>
      have HI := Lib.hid hi
      by_cases h4 : kind = 4 ∧ 0 < L.length
      · have HR : Hid (bindE id mem kind L c = 10) := Lib.hid (by rw [bindE, if_neg (fun h => h hok), if_neg hk, if_neg (by rw [hc]; decide), if_neg (by rw [hi]; decide), if_pos h4])
        have h4b : (kind == 4) = true := by simpa using h4.1
        have h4c : (0 : Int) < (L.length : Int) := by omega
        clear hok hk hc hi h4
        go_enter Try.func22, Try.ntmps22
        go_upto_region 1 with fail
        generalize hWW : (w.alloc (.cells #[.int .i64 id, .int .i64 mem, .int .i64 kind, .slice A L.length cap] 24)).alloc (.cells #[.int .i64 0, .int .i64 0, .int .i64 0, .slice none 0 0] 24) = w0 at *
        clear hWW
        have hb0 := Below.refl w0.heap.size w0
        have hcs := @cell_set
        obtain ⟨q0, q1, q2, q3⟩ := (hV0.bx).got
        simp only at q0 q1 q2 q3
        obtain ⟨z0, z1, z2, z3⟩ := hZ0.got
        have fq := hV0.fz
        have fz := hZ0.fz
        have lq := hV0.bx.lt
        have lz := hZ0.bk.1
        go_wp2_with fail
        refine (HCK.out _ hs0).mono ?_
        rw [HE.out]
        rintro e w1 ⟨rfl, hb⟩
        have hV1 := hV0.below hb
        have hZ1 := hZ0.below hb
        have hs1 := hs0.below hb
        have hB1 := since_step hB0 hb
        clear hb
        clear q0 q1 q2 q3 z0 z1 z2 z3 fq fz lq lz
        obtain ⟨q0, q1, q2, q3⟩ := (hV1.bx).got
        simp only at q0 q1 q2 q3
        obtain ⟨z0, z1, z2, z3⟩ := hZ1.got
        have fq := hV1.fz
        have fz := hZ1.fz
        have lq := hV1.bx.lt
        have lz := hZ1.bk.1
        go_wp2_with fail
        refine (HCL.out _).mono ?_
        rw [HC.out]
        rintro e w2 ⟨rfl, hb⟩
        have hV2 := hV1.below hb
        have hZ2 := hZ1.below hb
        have hs2 := hs1.below hb
        have hB2 := since_step hB1 hb
        clear hb
        clear q0 q1 q2 q3 z0 z1 z2 z3 fq fz lq lz
        obtain ⟨q0, q1, q2, q3⟩ := (hV2.bx).got
        simp only at q0 q1 q2 q3
        obtain ⟨z0, z1, z2, z3⟩ := hZ2.got
        have fq := hV2.fz
        have fz := hZ2.fz
        have lq := hV2.bx.lt
        have lz := hZ2.bk.1
        go_wp2_with fail
        refine (HIN.out _ hs2).mono ?_
        rw [HI.out]
        rintro e w3 ⟨rfl, hb⟩
        have hV3 := hV2.below hb
        have hZ3 := hZ2.below hb
        have hs3 := hs2.below hb
        have hB3 := since_step hB2 hb
        clear hb
        clear q0 q1 q2 q3 z0 z1 z2 z3 fq fz lq lz
        obtain ⟨q0, q1, q2, q3⟩ := (hV3.bx).got
        simp only at q0 q1 q2 q3
        obtain ⟨z0, z1, z2, z3⟩ := hZ3.got
        have fq := hV3.fz
        have fz := hZ3.fz
        have lq := hV3.bx.lt
        have lz := hZ3.bk.1
        go_wp2_with fail
        refine bodyPost_ret (v := .tuple #[.agg #[.int .i64 0, .int .i64 0, .int .i64 0, .slice none 0 0], .int .i64 10]) ?_ rfl ⟨?_, ?_⟩
        · simp [results, Try.results22, go_sem, z0, z1, z2, z3, fz]
        · rw [HR.out]; exact .inl ⟨by decide, rfl⟩
        · repeat' (first | with_reducible exact hB3 | with_reducible refine Below.setCell ?_ ?_ _ | with_reducible refine Below.alloc ?_ ?_ _)
          all_goals first | (simp; done) | (simp; omega)
      · have HR : Hid (bindE id mem kind L c = 0) := Lib.hid (by rw [bindE, if_neg (fun h => h hok), if_neg hk, if_neg (by rw [hc]; decide), if_neg (by rw [hi]; decide), if_neg h4])
        have h4b : ((kind == 4) = false) ∨ ((kind == 4) = true ∧ ¬ (0 : Int) < (L.length : Int)) := by
          by_cases h : kind = 4
          · exact .inr ⟨by simpa using h, fun h9 => h4 ⟨h, by omega⟩⟩
          · exact .inl (by simpa using h)
        clear hok hk hc hi h4
        rcases h4b with h4b | ⟨h4b, h4c⟩
        all_goals
          go_enter Try.func22, Try.ntmps22
          go_upto_region 1 with fail
          generalize hWW : (w.alloc (.cells #[.int .i64 id, .int .i64 mem, .int .i64 kind, .slice A L.length cap] 24)).alloc (.cells #[.int .i64 0, .int .i64 0, .int .i64 0, .slice none 0 0] 24) = w0 at *
          clear hWW
          have hb0 := Below.refl w0.heap.size w0
          have hcs := @cell_set
          obtain ⟨q0, q1, q2, q3⟩ := (hV0.bx).got
          simp only at q0 q1 q2 q3
          obtain ⟨z0, z1, z2, z3⟩ := hZ0.got
          have fq := hV0.fz
          have fz := hZ0.fz
          have lq := hV0.bx.lt
          have lz := hZ0.bk.1
          go_wp2_with fail
          refine (HCK.out _ hs0).mono ?_
          rw [HE.out]
          rintro e w1 ⟨rfl, hb⟩
          have hV1 := hV0.below hb
          have hZ1 := hZ0.below hb
          have hs1 := hs0.below hb
          have hB1 := since_step hB0 hb
          clear hb
          clear q0 q1 q2 q3 z0 z1 z2 z3 fq fz lq lz
          obtain ⟨q0, q1, q2, q3⟩ := (hV1.bx).got
          simp only at q0 q1 q2 q3
          obtain ⟨z0, z1, z2, z3⟩ := hZ1.got
          have fq := hV1.fz
          have fz := hZ1.fz
          have lq := hV1.bx.lt
          have lz := hZ1.bk.1
          go_wp2_with fail
          refine (HCL.out _).mono ?_
          rw [HC.out]
          rintro e w2 ⟨rfl, hb⟩
          have hV2 := hV1.below hb
          have hZ2 := hZ1.below hb
          have hs2 := hs1.below hb
          have hB2 := since_step hB1 hb
          clear hb
          clear q0 q1 q2 q3 z0 z1 z2 z3 fq fz lq lz
          obtain ⟨q0, q1, q2, q3⟩ := (hV2.bx).got
          simp only at q0 q1 q2 q3
          obtain ⟨z0, z1, z2, z3⟩ := hZ2.got
          have fq := hV2.fz
          have fz := hZ2.fz
          have lq := hV2.bx.lt
          have lz := hZ2.bk.1
          go_wp2_with fail
          refine (HIN.out _ hs2).mono ?_
          rw [HI.out]
          rintro e w3 ⟨rfl, hb⟩
          have hV3 := hV2.below hb
          have hZ3 := hZ2.below hb
          have hs3 := hs2.below hb
          have hB3 := since_step hB2 hb
          clear hb
          clear q0 q1 q2 q3 z0 z1 z2 z3 fq fz lq lz
          obtain ⟨q0, q1, q2, q3⟩ := (hV3.bx).got
          simp only at q0 q1 q2 q3
          obtain ⟨z0, z1, z2, z3⟩ := hZ3.got
          have fq := hV3.fz
          have fz := hZ3.fz
          have lq := hV3.bx.lt
          have lz := hZ3.bk.1
          go_wp2_with fail
          have lz3 := hZ3.bk.1
          have HPT := put_nt A cap L ⟨c⟩ 82 #[] ahN _ (by omega) hs3 ent_before (tells_before _ _)
          rw [putL_eq] at HPT
          refine HPT.mono ?_
          rintro e w4 ⟨⟨A4, c4, rfl, hown⟩, hb⟩
          have hV4 := hV3.below hb
          have hZ4 := hZ3.below hb
          have hown4 := own_base hown hB3.size
          have hB4 := since_step hB3 hb
          clear hb
          clear q0 q1 q2 q3 z0 z1 z2 z3 fq fz lq lz
          obtain ⟨q0, q1, q2, q3⟩ := (hV4.bx).got
          simp only at q0 q1 q2 q3
          obtain ⟨z0, z1, z2, z3⟩ := hZ4.got
          have fq := hV4.fz
          have fz := hZ4.fz
          have lq := hV4.bx.lt
          have lz := hZ4.bk.1
          go_wp2_with fail
          refine bodyPost_ret (v := .tuple #[.agg #[.int .i64 id, .int .i64 mem, .int .i64 kind, .slice A4 (inR L c).length c4], .int .i64 0]) ?_ rfl ⟨?_, ?_⟩
          · simp [results, Try.results22, go_sem, z0, z1, z2, z3, q0, q1, q2, q3, fz, fq, hcs, inR]
          · rw [HR.out]
            have hB4l : w.heap.size + 1 < w3.heap.size := lz3
            unfold inR
            refine .inr ⟨rfl, A4, c4, rfl, own_base ?_ hB3.size⟩
            repeat' (first | with_reducible exact hown | with_reducible refine own_setFar ?_ ?_ _)
            all_goals first | (simp; done) | (simp; omega)
          · repeat' (first | with_reducible exact hB4 | with_reducible refine Below.setCell ?_ ?_ _ | with_reducible refine Below.alloc ?_ ?_ _)
            all_goals first | (simp; done) | (simp; omega)
end Go.Proofs.Ytpnaihnmmnjacaa
