import Derived.Test.YtahdmomadbbhoaaGreatDg16
section
namespace Go.Proofs.YtahdmomadbbhoaaGreat
open Go.ChangeShapes Go.WideShapes Go.ChangeAt Go.RowKit
set_option linter.unusedVariables false
set_option linter.unusedSimpArgs false

def okG (x : Lg) : Bool := decide (1 ≤ x.ins) && decide (x.ins ≤ 8) && !(x.qty == 0)
def ahG (x y : Lg) : Bool := decide (x.ins < y.ins)
def isG (l : List Lg) : Bool := l.all okG && risingL ahG l
def inG (i : Int) (x : Lg) : Bool := x.ins == i
def getG (l : List Lg) (i : Int) : Int := (pickL (inG i) Lg.zero l).qty
set_option maxHeartbeats 1000000 in
set_option maxRecDepth 100000 in
theorem vahead_any (x y : Lg) (w : World) : Calls Tryz.prog 103 #[x.val, y.val] w fun e w' => e = .returned (.bool (ahG x y)) ∧ Below w.heap.size w w' := by
  have hB := since_alloc (since_alloc (Below.refl _ w) (.cells x.cells.toArray 75)) (.cells y.cells.toArray 75)
  obtain ⟨ua, uq⟩ := x
  obtain ⟨va, vq⟩ := y
  unfold Lg.val Lg.cells at *
  simp only at hB ⊢
  go_enter Tryz.func103, Tryz.ntmps103
  go_wp2_with fail
  go_ret
  exact ⟨rfl, hB⟩
theorem ent_vahead : Ent Tryz.prog 103 := Ent.of (by kernel_rfl)
theorem tells_vahead (B : Nat) (w : World) : Lg.Tells2 103 #[] ahG B w := fun a b W _ => vahead_any a b W
theorem isG_bad {l : List Lg} {k : Nat} (h : k < l.length) (hb : okG l[k] = false) : isG l = false := by
  unfold isG
  have : l.all okG = false := by
    rw [← Bool.not_eq_true, List.all_eq_true]
    intro ha
    rw [ha _ (List.getElem_mem h)] at hb
    cases hb
  rw [this]; simp
theorem allG {l : List Lg} (h : ∀ j, (hj : j < l.length) → okG l[j] = true) : l.all okG = true := by
  rw [List.all_eq_true]
  intro x hx
  obtain ⟨j, hj, rfl⟩ := List.getElem_of_mem hx
  exact h j hj
theorem isG_low {l : List Lg} {j : Nat} (h : j + 1 < l.length) (hb : ahG (l[j]'(by omega)) l[j + 1] = false) : isG l = false := by
  unfold isG
  rw [risingL_false h hb]; simp
theorem isG_end {l : List Lg} (h1 : ∀ j, (hj : j < l.length) → okG l[j] = true) (h2 : ∀ j, (hj : j + 1 < l.length) → ahG (l[j]'(by omega)) l[j + 1] = true) : isG l = true := by
  unfold isG
  rw [allG h1, (risingL_iff ahG l).2 h2]; simp
theorem okG_ways (v : Lg) : (okG v = false ∧ v.ins < 1) ∨ (okG v = false ∧ ¬ v.ins < 1 ∧ 8 < v.ins) ∨ (okG v = false ∧ ¬ v.ins < 1 ∧ ¬ 8 < v.ins ∧ (v.qty == 0) = true) ∨ (okG v = true ∧ ¬ v.ins < 1 ∧ ¬ 8 < v.ins ∧ (v.qty == 0) = false) := by
  unfold okG
  by_cases h1 : v.ins < 1
  · left; refine ⟨?_, h1⟩; simp; omega
  by_cases h2 : 8 < v.ins
  · right; left; refine ⟨?_, h1, h2⟩; simp; omega
  cases h3 : (v.qty == 0) with
  | true => right; right; left; exact ⟨by simp, h1, h2, rfl⟩
  | false => right; right; right; refine ⟨?_, h1, h2, rfl⟩; simp; omega
set_option maxHeartbeats 4000000 in
set_option maxRecDepth 100000 in
theorem vis_any (A : Option Addr) (cap : Nat) (l : List Lg) (w : World) (hl : l.length ≤ 1000000) (hs : Sl w A (rc Lg.cells l)) :
    Calls Tryz.prog 72 #[.slice A l.length cap] w fun e w' => e = .returned (.bool (isG l)) ∧ Below w.heap.size w w' := by
  go_enter Tryz.func72, Tryz.ntmps72
  go_wp2_with fail
  go_loopw [7] (fun i wr => ∃ k : Nat, k ≤ l.length ∧ i = .int .i64 k ∧ (∀ j, (hj : j < l.length) → j < k → okG l[j] = true) ∧ Below w.heap.size w wr) (fun i _ => l.length - (intOf i).toNat)
  case atStart => exact ⟨0, by omega, rfl, fun j hj h => absurd h (by omega), Below.refl _ _⟩
  case round =>
    obtain ⟨k, hk, rfl, hno, hB⟩ := hrel
    by_cases hlt : k < l.length
    · obtain ⟨b, o, rfl, hbw, hg⟩ := (hs.below hB).lg hlt
      have hlk : (k : Int) < (l.length : Int) := by omega
      have hA := since_alloc hB (.cells l[k].cells.toArray 75)
      have HNX : Hid (okG l[k] = true → ∀ j, (hj : j < l.length) → j < k + 1 → okG l[j] = true) := Lib.hid (fun h j hj hjk => by
        rcases Nat.lt_or_ge j k with h' | h'
        · exact hno j hj h'
        · obtain rfl : j = k := by omega
          exact h)
      have HBD : Hid (okG l[k] = false → isG l = false) := Lib.hid (fun h => isG_bad hlt h)
      clear hno
      generalize l[k] = v at *
      rcases okG_ways v with ⟨hq, h1⟩ | ⟨hq, h1, h2⟩ | ⟨hq, h1, h2, h3⟩ | ⟨hq, h1, h2, h3⟩
      · have HE := Lib.hid (HBD.out hq)
        clear HBD HNX hq
        obtain ⟨vi, vq⟩ := v
        obtain ⟨g0, g1⟩ := hg
        unfold Lg.cells at hA
        simp only at *
        go_wp2_with fail
        go_ret
        exact ⟨retB HE.out.symm, hA⟩
      · have HE := Lib.hid (HBD.out hq)
        clear HBD HNX hq
        obtain ⟨vi, vq⟩ := v
        obtain ⟨g0, g1⟩ := hg
        unfold Lg.cells at hA
        simp only at *
        go_wp2_with fail
        go_ret
        exact ⟨retB HE.out.symm, hA⟩
      · have HE := Lib.hid (HBD.out hq)
        clear HBD HNX hq
        obtain ⟨vi, vq⟩ := v
        obtain ⟨g0, g1⟩ := hg
        unfold Lg.cells at hA
        simp only at *
        go_wp2_with fail
        go_ret
        exact ⟨retB HE.out.symm, hA⟩
      · have HN := Lib.hid (HNX.out hq)
        clear HBD HNX hq
        obtain ⟨vi, vq⟩ := v
        obtain ⟨g0, g1⟩ := hg
        unfold Lg.cells at hA
        simp only at *
        go_wp2_with fail
        go_roundw
        case rel => exact ⟨k + 1, by omega, by go_num, HN.out, hA⟩
        case measure => simp [intOf]; omega
    · obtain rfl : k = l.length := by omega
      have ha := allG fun j hj => hno j hj hj
      clear hno
      have HE : Hid (isG l = risingL ahG l) := Lib.hid (by unfold isG; rw [ha]; simp)
      have hs2 := hs.below hB
      clear ha
      go_wp2_with fail
      refine (rising_lg A cap l 103 #[] ahG _ hl hs2 ent_vahead (tells_vahead _ _)).mono ?_
      rintro e w1 ⟨rfl, hb⟩
      have hB1 := since_step hB hb
      go_wp2_with fail
      go_ret
      exact ⟨retB HE.out.symm, hB1⟩
set_option maxHeartbeats 4000000 in
set_option maxRecDepth 100000 in
theorem rvis_any (A : Option Addr) (cap : Nat) (l : List Lg) (w : World) (hl : l.length ≤ 1000000) (hs : Sl w A (rc Lg.cells l)) :
    Calls Tryz.prog 77 #[.slice A l.length cap] w fun e w' => e = .returned (.bool (isG l)) ∧ Below w.heap.size w w' := by
  go_enter Tryz.func77, Tryz.ntmps77
  go_wp2_with fail
  go_loopw [3] (fun i wr => ∃ k : Nat, k ≤ l.length ∧ i = .int .i64 k ∧ (∀ j, (hj : j < l.length) → j < k → okG l[j] = true) ∧ (∀ j, (hj : j + 1 < l.length) → j + 1 < k → ahG (l[j]'(by omega)) l[j + 1] = true) ∧ Below w.heap.size w wr) (fun i _ => l.length - (intOf i).toNat)
  case atStart => exact ⟨0, by omega, rfl, fun j hj h => absurd h (by omega), fun j hj h => absurd h (by omega), Below.refl _ _⟩
  case round =>
    obtain ⟨k, hk, rfl, hno, hri, hB⟩ := hrel
    by_cases hlt : k < l.length
    · obtain ⟨b, o, rfl, hbw, hg⟩ := (hs.below hB).lg hlt
      have hlk : (k : Int) < (l.length : Int) := by omega
      have hk0 : (0 : Int) ≤ (k : Int) := by omega
      rcases okG_ways l[k] with ⟨hq, h1⟩ | ⟨hq, h1, h2⟩ | ⟨hq, h1, h2, h3⟩ | ⟨hq, h1, h2, h3⟩
      · have HE : Hid (isG l = false) := Lib.hid (isG_bad hlt hq)
        clear hno hri hq
        generalize l[k] = v at *
        have HX : Hid (∀ V, Below wr.heap.size wr V → Lg.at v V b (o + k * 2)) := Lib.hid fun V hV => Lg.at_keep (w := wr) hg fun i => hV.cell (p := ⟨b, i, none⟩) hbw
        unfold Lg.at at HX
        obtain ⟨vi, vq⟩ := v
        simp only at *
        have d1 : decide (vi < 1) = true := decide_eq_true h1
        clear hg h1
        go_wp2_with fail
        refine wp_region_held_drew (S := (fun V => Below wr.heap.size wr V)) (by kernel_rfl) (by exact (Below.refl _ _).drew) (fun hHeld => ?_)
        refine tkZ (i := 0) (oi := ⟨some 10, _, _, _, _, _⟩) (v := ?_) rfl (by kernel_rfl) (fun _ _ _ h => h) (Or.inl ⟨by rfl, ?_⟩) hHeld ?_
        rotate_left
        · (intro w hSw; obtain ⟨x0, x1⟩ := HX.out _ hSw; go_simp <;> with_reducible rfl)
        try simp only [pqZ]
        refine tkZ (i := 1) (oi := ⟨some 11, _, _, _, _, _⟩) (v := ?_) rfl (by kernel_rfl) (fun _ _ _ h => h) (Or.inl ⟨by rfl, ?_⟩) hHeld ?_
        rotate_left
        · (intro w hSw; obtain ⟨x0, x1⟩ := HX.out _ hSw; go_simp <;> with_reducible rfl)
        try simp only [pqZ]
        refine tkZ (i := 2) (oi := ⟨some 12, _, _, _, _, _⟩) (v := ?_) rfl (by kernel_rfl) (fun _ _ _ h => h) (Or.inl ⟨by rfl, ?_⟩) hHeld ?_
        rotate_left
        · (intro w hSw; obtain ⟨x0, x1⟩ := HX.out _ hSw; go_simp <;> with_reducible rfl)
        try simp only [pqZ]
        refine tkZ (i := 3) (oi := ⟨some 13, _, _, _, _, _⟩) (v := ?_) rfl (by kernel_rfl) (fun _ _ _ h => h) (Or.inl ⟨by rfl, ?_⟩) hHeld ?_
        rotate_left
        · (intro w hSw; obtain ⟨x0, x1⟩ := HX.out _ hSw; go_simp <;> with_reducible rfl)
        try simp only [pqZ]
        refine tkZ (i := 4) (oi := ⟨some 14, _, _, _, _, _⟩) (v := ?_) rfl (by kernel_rfl) (fun _ _ _ h => h) (Or.inl ⟨by rfl, ?_⟩) hHeld ?_
        rotate_left
        · (intro w hSw; obtain ⟨x0, x1⟩ := HX.out _ hSw; go_simp <;> with_reducible rfl)
        try simp only [pqZ]
        refine tkZ (i := 5) (oi := ⟨some 15, _, _, _, _, _⟩) (v := ?_) rfl (by kernel_rfl) (fun _ _ _ h => h) (Or.inl ⟨by rfl, ?_⟩) hHeld ?_
        rotate_left
        · (intro w hSw; obtain ⟨x0, x1⟩ := HX.out _ hSw; go_simp <;> with_reducible rfl)
        try simp only [pqZ]
        refine tkZ (i := 6) (oi := ⟨some 16, _, _, _, _, _⟩) (v := ?_) rfl (by kernel_rfl) (fun _ _ _ h => h) (Or.inl ⟨by rfl, ?_⟩) hHeld ?_
        rotate_left
        · (intro w hSw; obtain ⟨x0, x1⟩ := HX.out _ hSw; go_simp <;> with_reducible rfl)
        try simp only [pqZ]
        refine tkZ (i := 7) (oi := ⟨some 17, _, _, _, _, _⟩) (v := undef) rfl (by kernel_rfl) (fun _ _ _ h => h) (Or.inr ⟨by rfl, rfl⟩) hHeld ?_
        try simp only [pqZ]
        refine tkZ (i := 8) (oi := ⟨some 18, _, _, _, _, _⟩) (v := undef) rfl (by kernel_rfl) (fun _ _ _ h => h) (Or.inr ⟨by rfl, rfl⟩) hHeld ?_
        try simp only [pqZ]
        refine tkZ (i := 9) (oi := ⟨some 19, _, _, _, _, _⟩) (v := undef) rfl (by kernel_rfl) (fun _ _ _ h => h) (Or.inr ⟨by rfl, rfl⟩) hHeld ?_
        try simp only [pqZ]
        refine tkZ (i := 10) (oi := ⟨some 20, _, _, _, _, _⟩) (v := undef) rfl (by kernel_rfl) (fun _ _ _ h => h) (Or.inr ⟨by rfl, rfl⟩) hHeld ?_
        try simp only [pqZ]
        refine tkZ (i := 11) (oi := ⟨some 21, _, _, _, _, _⟩) (v := undef) rfl (by kernel_rfl) (fun _ _ _ h => h) (Or.inr ⟨by rfl, rfl⟩) hHeld ?_
        try simp only [pqZ]
        refine tkZ (i := 12) (oi := ⟨some 22, _, _, _, _, _⟩) (v := undef) rfl (by kernel_rfl) (fun _ _ _ h => h) (Or.inr ⟨by rfl, rfl⟩) hHeld ?_
        try simp only [pqZ]
        refine tkZ (i := 13) (oi := ⟨some 23, _, _, _, _, _⟩) (v := ?_) rfl (by kernel_rfl) (fun _ _ _ h => h) (Or.inl ⟨by rfl, ?_⟩) hHeld ?_
        rotate_left
        · (intro w hSw; obtain ⟨x0, x1⟩ := HX.out _ hSw; go_simp <;> with_reducible rfl)
        try simp only [pqZ]
        refine tkZ (i := 14) (oi := ⟨some 24, _, _, _, _, _⟩) (v := ?_) rfl (by kernel_rfl) (fun _ _ _ h => h) (Or.inl ⟨by rfl, ?_⟩) hHeld ?_
        rotate_left
        · (intro w hSw; obtain ⟨x0, x1⟩ := HX.out _ hSw; go_simp <;> with_reducible rfl)
        try simp only [pqZ]
        refine tkZ (i := 15) (oi := ⟨some 25, _, _, _, _, _⟩) (v := undef) rfl (by kernel_rfl) (fun _ _ _ h => h) (Or.inr ⟨by rfl, rfl⟩) hHeld ?_
        try simp only [pqZ]
        refine tkZ (i := 16) (oi := ⟨some 26, _, _, _, _, _⟩) (v := undef) rfl (by kernel_rfl) (fun _ _ _ h => h) (Or.inr ⟨by rfl, rfl⟩) hHeld ?_
        try simp only [pqZ]
        refine tkZ (i := 17) (oi := ⟨some 27, _, _, _, _, _⟩) (v := undef) rfl (by kernel_rfl) (fun _ _ _ h => h) (Or.inr ⟨by rfl, rfl⟩) hHeld ?_
        try simp only [pqZ]
        refine tkZ (i := 18) (oi := ⟨some 28, _, _, _, _, _⟩) (v := undef) rfl (by kernel_rfl) (fun _ _ _ h => h) (Or.inr ⟨by rfl, rfl⟩) hHeld ?_
        try simp only [pqZ]
        refine tkZ (i := 19) (oi := ⟨some 29, _, _, _, _, _⟩) (v := undef) rfl (by kernel_rfl) (fun _ _ _ h => h) (Or.inr ⟨by rfl, rfl⟩) hHeld ?_
        try simp only [pqZ]
        refine tkZ (i := 20) (oi := ⟨some 30, _, _, _, _, _⟩) (v := undef) rfl (by kernel_rfl) (fun _ _ _ h => h) (Or.inr ⟨by rfl, rfl⟩) hHeld ?_
        try simp only [pqZ]
        refine tkZ (i := 21) (oi := ⟨some 31, _, _, _, _, _⟩) (v := ?_) rfl (by kernel_rfl) (fun _ _ _ h => h) (Or.inl ⟨by rfl, ?_⟩) hHeld ?_
        rotate_left
        · (intro w hSw; obtain ⟨x0, x1⟩ := HX.out _ hSw; go_simp <;> with_reducible rfl)
        try simp only [pqZ]
        refine tkZ (i := 22) (oi := ⟨some 32, _, _, _, _, _⟩) (v := ?_) rfl (by kernel_rfl) (fun _ _ _ h => h) (Or.inl ⟨by rfl, ?_⟩) hHeld ?_
        rotate_left
        · (intro w hSw; obtain ⟨x0, x1⟩ := HX.out _ hSw; go_simp <;> with_reducible rfl)
        try simp only [pqZ]
        refine tkZ (i := 23) (oi := ⟨some 33, _, _, _, _, _⟩) (v := undef) rfl (by kernel_rfl) (fun _ _ _ h => h) (Or.inr ⟨by rfl, rfl⟩) hHeld ?_
        try simp only [pqZ]
        refine tkZ (i := 24) (oi := ⟨some 34, _, _, _, _, _⟩) (v := undef) rfl (by kernel_rfl) (fun _ _ _ h => h) (Or.inr ⟨by rfl, rfl⟩) hHeld ?_
        try simp only [pqZ]
        refine tkZ (i := 25) (oi := ⟨some 35, _, _, _, _, _⟩) (v := undef) rfl (by kernel_rfl) (fun _ _ _ h => h) (Or.inr ⟨by rfl, rfl⟩) hHeld ?_
        try simp only [pqZ]
        refine tkZ (i := 26) (oi := ⟨some 36, _, _, _, _, _⟩) (v := undef) rfl (by kernel_rfl) (fun _ _ _ h => h) (Or.inr ⟨by rfl, rfl⟩) hHeld ?_
        try simp only [pqZ]
        refine tkZ (i := 27) (oi := ⟨some 37, _, _, _, _, _⟩) (v := undef) rfl (by kernel_rfl) (fun _ _ _ h => h) (Or.inr ⟨by rfl, rfl⟩) hHeld ?_
        try simp only [pqZ]
        refine tkZ (i := 28) (oi := ⟨some 38, _, _, _, _, _⟩) (v := undef) rfl (by kernel_rfl) (fun _ _ _ h => h) (Or.inr ⟨by rfl, rfl⟩) hHeld ?_
        try simp only [pqZ]
        refine tkZ (i := 29) (oi := ⟨some 39, _, _, _, _, _⟩) (v := undef) rfl (by kernel_rfl) (fun _ _ _ h => h) (Or.inr ⟨by rfl, rfl⟩) hHeld ?_
        try simp only [pqZ]
        refine tkZ (i := 30) (oi := ⟨some 40, _, _, _, _, _⟩) (v := undef) rfl (by kernel_rfl) (fun _ _ _ h => h) (Or.inr ⟨by rfl, rfl⟩) hHeld ?_
        try simp only [pqZ]
        refine tkZ (i := 31) (oi := ⟨some 41, _, _, _, _, _⟩) (v := undef) rfl (by kernel_rfl) (fun _ _ _ h => h) (Or.inr ⟨by rfl, rfl⟩) hHeld ?_
        try simp only [pqZ]
        refine tkZ (i := 32) (oi := ⟨some 42, _, _, _, _, _⟩) (v := undef) rfl (by kernel_rfl) (fun _ _ _ h => h) (Or.inr ⟨by rfl, rfl⟩) hHeld ?_
        try simp only [pqZ]
        refine tkZ (i := 33) (oi := ⟨some 43, _, _, _, _, _⟩) (v := undef) rfl (by kernel_rfl) (fun _ _ _ h => h) (Or.inr ⟨by rfl, rfl⟩) hHeld ?_
        try simp only [pqZ]
        refine tkZ (i := 34) (oi := ⟨some 44, _, _, _, _, _⟩) (v := undef) rfl (by kernel_rfl) (fun _ _ _ h => h) (Or.inr ⟨by rfl, rfl⟩) hHeld ?_
        try simp only [pqZ]
        refine tkZ (i := 35) (oi := ⟨some 45, _, _, _, _, _⟩) (v := undef) rfl (by kernel_rfl) (fun _ _ _ h => h) (Or.inr ⟨by rfl, rfl⟩) hHeld ?_
        try simp only [pqZ]
        refine tkZ (i := 36) (oi := ⟨some 46, _, _, _, _, _⟩) (v := undef) rfl (by kernel_rfl) (fun _ _ _ h => h) (Or.inr ⟨by rfl, rfl⟩) hHeld ?_
        try simp only [pqZ]
        refine tkZ (i := 37) (oi := ⟨some 47, _, _, _, _, _⟩) (v := undef) rfl (by kernel_rfl) (fun _ _ _ h => h) (Or.inr ⟨by rfl, rfl⟩) hHeld ?_
        try simp only [pqZ]
        refine tkZ (i := 38) (oi := ⟨some 48, _, _, _, _, _⟩) (v := undef) rfl (by kernel_rfl) (fun _ _ _ h => h) (Or.inr ⟨by rfl, rfl⟩) hHeld ?_
        try simp only [pqZ]
        refine tkZ (i := 39) (oi := ⟨some 49, _, _, _, _, _⟩) (v := ?_) rfl (by kernel_rfl) (fun _ _ _ h => h) (Or.inl ⟨by rfl, ?_⟩) hHeld ?_
        rotate_left
        · (intro w hSw; obtain ⟨x0, x1⟩ := HX.out _ hSw; go_simp <;> with_reducible rfl)
        try simp only [pqZ]
        refine wpAnyH_done (by kernel_rfl) ?_ _
        have hB2 := hB.trans (hHeld.mono hB.size)
        go_wp2_with fail
        go_ret
        exact ⟨retB HE.out.symm, hB2⟩
      · have HE : Hid (isG l = false) := Lib.hid (isG_bad hlt hq)
        clear hno hri hq
        generalize l[k] = v at *
        have HX : Hid (∀ V, Below wr.heap.size wr V → Lg.at v V b (o + k * 2)) := Lib.hid fun V hV => Lg.at_keep (w := wr) hg fun i => hV.cell (p := ⟨b, i, none⟩) hbw
        unfold Lg.at at HX
        obtain ⟨vi, vq⟩ := v
        simp only at *
        have d1 : decide (vi < 1) = false := decide_eq_false h1
        have d2 : decide (8 < vi) = true := decide_eq_true h2
        clear hg h1 h2
        go_wp2_with fail
        refine wp_region_held_drew (S := (fun V => Below wr.heap.size wr V)) (by kernel_rfl) (by exact (Below.refl _ _).drew) (fun hHeld => ?_)
        refine tkZ (i := 0) (oi := ⟨some 10, _, _, _, _, _⟩) (v := ?_) rfl (by kernel_rfl) (fun _ _ _ h => h) (Or.inl ⟨by rfl, ?_⟩) hHeld ?_
        rotate_left
        · (intro w hSw; obtain ⟨x0, x1⟩ := HX.out _ hSw; go_simp <;> with_reducible rfl)
        try simp only [pqZ]
        refine tkZ (i := 1) (oi := ⟨some 11, _, _, _, _, _⟩) (v := ?_) rfl (by kernel_rfl) (fun _ _ _ h => h) (Or.inl ⟨by rfl, ?_⟩) hHeld ?_
        rotate_left
        · (intro w hSw; obtain ⟨x0, x1⟩ := HX.out _ hSw; go_simp <;> with_reducible rfl)
        try simp only [pqZ]
        refine tkZ (i := 2) (oi := ⟨some 12, _, _, _, _, _⟩) (v := ?_) rfl (by kernel_rfl) (fun _ _ _ h => h) (Or.inl ⟨by rfl, ?_⟩) hHeld ?_
        rotate_left
        · (intro w hSw; obtain ⟨x0, x1⟩ := HX.out _ hSw; go_simp <;> with_reducible rfl)
        try simp only [pqZ]
        refine tkZ (i := 3) (oi := ⟨some 13, _, _, _, _, _⟩) (v := ?_) rfl (by kernel_rfl) (fun _ _ _ h => h) (Or.inl ⟨by rfl, ?_⟩) hHeld ?_
        rotate_left
        · (intro w hSw; obtain ⟨x0, x1⟩ := HX.out _ hSw; go_simp <;> with_reducible rfl)
        try simp only [pqZ]
        refine tkZ (i := 4) (oi := ⟨some 14, _, _, _, _, _⟩) (v := ?_) rfl (by kernel_rfl) (fun _ _ _ h => h) (Or.inl ⟨by rfl, ?_⟩) hHeld ?_
        rotate_left
        · (intro w hSw; obtain ⟨x0, x1⟩ := HX.out _ hSw; go_simp <;> with_reducible rfl)
        try simp only [pqZ]
        refine tkZ (i := 5) (oi := ⟨some 15, _, _, _, _, _⟩) (v := ?_) rfl (by kernel_rfl) (fun _ _ _ h => h) (Or.inl ⟨by rfl, ?_⟩) hHeld ?_
        rotate_left
        · (intro w hSw; obtain ⟨x0, x1⟩ := HX.out _ hSw; go_simp <;> with_reducible rfl)
        try simp only [pqZ]
        refine tkZ (i := 6) (oi := ⟨some 16, _, _, _, _, _⟩) (v := ?_) rfl (by kernel_rfl) (fun _ _ _ h => h) (Or.inl ⟨by rfl, ?_⟩) hHeld ?_
        rotate_left
        · (intro w hSw; obtain ⟨x0, x1⟩ := HX.out _ hSw; go_simp <;> with_reducible rfl)
        try simp only [pqZ]
        refine tkZ (i := 7) (oi := ⟨some 17, _, _, _, _, _⟩) (v := ?_) rfl (by kernel_rfl) (fun _ _ _ h => h) (Or.inl ⟨by rfl, ?_⟩) hHeld ?_
        rotate_left
        · (intro w hSw; obtain ⟨x0, x1⟩ := HX.out _ hSw; go_simp <;> with_reducible rfl)
        try simp only [pqZ]
        refine tkZ (i := 8) (oi := ⟨some 18, _, _, _, _, _⟩) (v := ?_) rfl (by kernel_rfl) (fun _ _ _ h => h) (Or.inl ⟨by rfl, ?_⟩) hHeld ?_
        rotate_left
        · (intro w hSw; obtain ⟨x0, x1⟩ := HX.out _ hSw; go_simp <;> with_reducible rfl)
        try simp only [pqZ]
        refine tkZ (i := 9) (oi := ⟨some 19, _, _, _, _, _⟩) (v := ?_) rfl (by kernel_rfl) (fun _ _ _ h => h) (Or.inl ⟨by rfl, ?_⟩) hHeld ?_
        rotate_left
        · (intro w hSw; obtain ⟨x0, x1⟩ := HX.out _ hSw; go_simp <;> with_reducible rfl)
        try simp only [pqZ]
        refine tkZ (i := 10) (oi := ⟨some 20, _, _, _, _, _⟩) (v := ?_) rfl (by kernel_rfl) (fun _ _ _ h => h) (Or.inl ⟨by rfl, ?_⟩) hHeld ?_
        rotate_left
        · (intro w hSw; obtain ⟨x0, x1⟩ := HX.out _ hSw; go_simp <;> with_reducible rfl)
        try simp only [pqZ]
        refine tkZ (i := 11) (oi := ⟨some 21, _, _, _, _, _⟩) (v := ?_) rfl (by kernel_rfl) (fun _ _ _ h => h) (Or.inl ⟨by rfl, ?_⟩) hHeld ?_
        rotate_left
        · (intro w hSw; obtain ⟨x0, x1⟩ := HX.out _ hSw; go_simp <;> with_reducible rfl)
        try simp only [pqZ]
        refine tkZ (i := 12) (oi := ⟨some 22, _, _, _, _, _⟩) (v := ?_) rfl (by kernel_rfl) (fun _ _ _ h => h) (Or.inl ⟨by rfl, ?_⟩) hHeld ?_
        rotate_left
        · (intro w hSw; obtain ⟨x0, x1⟩ := HX.out _ hSw; go_simp <;> with_reducible rfl)
        try simp only [pqZ]
        refine tkZ (i := 13) (oi := ⟨some 23, _, _, _, _, _⟩) (v := ?_) rfl (by kernel_rfl) (fun _ _ _ h => h) (Or.inl ⟨by rfl, ?_⟩) hHeld ?_
        rotate_left
        · (intro w hSw; obtain ⟨x0, x1⟩ := HX.out _ hSw; go_simp <;> with_reducible rfl)
        try simp only [pqZ]
        refine tkZ (i := 14) (oi := ⟨some 24, _, _, _, _, _⟩) (v := ?_) rfl (by kernel_rfl) (fun _ _ _ h => h) (Or.inl ⟨by rfl, ?_⟩) hHeld ?_
        rotate_left
        · (intro w hSw; obtain ⟨x0, x1⟩ := HX.out _ hSw; go_simp <;> with_reducible rfl)
        try simp only [pqZ]
        refine tkZ (i := 15) (oi := ⟨some 25, _, _, _, _, _⟩) (v := undef) rfl (by kernel_rfl) (fun _ _ _ h => h) (Or.inr ⟨by rfl, rfl⟩) hHeld ?_
        try simp only [pqZ]
        refine tkZ (i := 16) (oi := ⟨some 26, _, _, _, _, _⟩) (v := undef) rfl (by kernel_rfl) (fun _ _ _ h => h) (Or.inr ⟨by rfl, rfl⟩) hHeld ?_
        try simp only [pqZ]
        refine tkZ (i := 17) (oi := ⟨some 27, _, _, _, _, _⟩) (v := undef) rfl (by kernel_rfl) (fun _ _ _ h => h) (Or.inr ⟨by rfl, rfl⟩) hHeld ?_
        try simp only [pqZ]
        refine tkZ (i := 18) (oi := ⟨some 28, _, _, _, _, _⟩) (v := undef) rfl (by kernel_rfl) (fun _ _ _ h => h) (Or.inr ⟨by rfl, rfl⟩) hHeld ?_
        try simp only [pqZ]
        refine tkZ (i := 19) (oi := ⟨some 29, _, _, _, _, _⟩) (v := undef) rfl (by kernel_rfl) (fun _ _ _ h => h) (Or.inr ⟨by rfl, rfl⟩) hHeld ?_
        try simp only [pqZ]
        refine tkZ (i := 20) (oi := ⟨some 30, _, _, _, _, _⟩) (v := undef) rfl (by kernel_rfl) (fun _ _ _ h => h) (Or.inr ⟨by rfl, rfl⟩) hHeld ?_
        try simp only [pqZ]
        refine tkZ (i := 21) (oi := ⟨some 31, _, _, _, _, _⟩) (v := ?_) rfl (by kernel_rfl) (fun _ _ _ h => h) (Or.inl ⟨by rfl, ?_⟩) hHeld ?_
        rotate_left
        · (intro w hSw; obtain ⟨x0, x1⟩ := HX.out _ hSw; go_simp <;> with_reducible rfl)
        try simp only [pqZ]
        refine tkZ (i := 22) (oi := ⟨some 32, _, _, _, _, _⟩) (v := ?_) rfl (by kernel_rfl) (fun _ _ _ h => h) (Or.inl ⟨by rfl, ?_⟩) hHeld ?_
        rotate_left
        · (intro w hSw; obtain ⟨x0, x1⟩ := HX.out _ hSw; go_simp <;> with_reducible rfl)
        try simp only [pqZ]
        refine tkZ (i := 23) (oi := ⟨some 33, _, _, _, _, _⟩) (v := undef) rfl (by kernel_rfl) (fun _ _ _ h => h) (Or.inr ⟨by rfl, rfl⟩) hHeld ?_
        try simp only [pqZ]
        refine tkZ (i := 24) (oi := ⟨some 34, _, _, _, _, _⟩) (v := undef) rfl (by kernel_rfl) (fun _ _ _ h => h) (Or.inr ⟨by rfl, rfl⟩) hHeld ?_
        try simp only [pqZ]
        refine tkZ (i := 25) (oi := ⟨some 35, _, _, _, _, _⟩) (v := undef) rfl (by kernel_rfl) (fun _ _ _ h => h) (Or.inr ⟨by rfl, rfl⟩) hHeld ?_
        try simp only [pqZ]
        refine tkZ (i := 26) (oi := ⟨some 36, _, _, _, _, _⟩) (v := undef) rfl (by kernel_rfl) (fun _ _ _ h => h) (Or.inr ⟨by rfl, rfl⟩) hHeld ?_
        try simp only [pqZ]
        refine tkZ (i := 27) (oi := ⟨some 37, _, _, _, _, _⟩) (v := undef) rfl (by kernel_rfl) (fun _ _ _ h => h) (Or.inr ⟨by rfl, rfl⟩) hHeld ?_
        try simp only [pqZ]
        refine tkZ (i := 28) (oi := ⟨some 38, _, _, _, _, _⟩) (v := undef) rfl (by kernel_rfl) (fun _ _ _ h => h) (Or.inr ⟨by rfl, rfl⟩) hHeld ?_
        try simp only [pqZ]
        refine tkZ (i := 29) (oi := ⟨some 39, _, _, _, _, _⟩) (v := undef) rfl (by kernel_rfl) (fun _ _ _ h => h) (Or.inr ⟨by rfl, rfl⟩) hHeld ?_
        try simp only [pqZ]
        refine tkZ (i := 30) (oi := ⟨some 40, _, _, _, _, _⟩) (v := undef) rfl (by kernel_rfl) (fun _ _ _ h => h) (Or.inr ⟨by rfl, rfl⟩) hHeld ?_
        try simp only [pqZ]
        refine tkZ (i := 31) (oi := ⟨some 41, _, _, _, _, _⟩) (v := undef) rfl (by kernel_rfl) (fun _ _ _ h => h) (Or.inr ⟨by rfl, rfl⟩) hHeld ?_
        try simp only [pqZ]
        refine tkZ (i := 32) (oi := ⟨some 42, _, _, _, _, _⟩) (v := undef) rfl (by kernel_rfl) (fun _ _ _ h => h) (Or.inr ⟨by rfl, rfl⟩) hHeld ?_
        try simp only [pqZ]
        refine tkZ (i := 33) (oi := ⟨some 43, _, _, _, _, _⟩) (v := undef) rfl (by kernel_rfl) (fun _ _ _ h => h) (Or.inr ⟨by rfl, rfl⟩) hHeld ?_
        try simp only [pqZ]
        refine tkZ (i := 34) (oi := ⟨some 44, _, _, _, _, _⟩) (v := undef) rfl (by kernel_rfl) (fun _ _ _ h => h) (Or.inr ⟨by rfl, rfl⟩) hHeld ?_
        try simp only [pqZ]
        refine tkZ (i := 35) (oi := ⟨some 45, _, _, _, _, _⟩) (v := undef) rfl (by kernel_rfl) (fun _ _ _ h => h) (Or.inr ⟨by rfl, rfl⟩) hHeld ?_
        try simp only [pqZ]
        refine tkZ (i := 36) (oi := ⟨some 46, _, _, _, _, _⟩) (v := undef) rfl (by kernel_rfl) (fun _ _ _ h => h) (Or.inr ⟨by rfl, rfl⟩) hHeld ?_
        try simp only [pqZ]
        refine tkZ (i := 37) (oi := ⟨some 47, _, _, _, _, _⟩) (v := undef) rfl (by kernel_rfl) (fun _ _ _ h => h) (Or.inr ⟨by rfl, rfl⟩) hHeld ?_
        try simp only [pqZ]
        refine tkZ (i := 38) (oi := ⟨some 48, _, _, _, _, _⟩) (v := undef) rfl (by kernel_rfl) (fun _ _ _ h => h) (Or.inr ⟨by rfl, rfl⟩) hHeld ?_
        try simp only [pqZ]
        refine tkZ (i := 39) (oi := ⟨some 49, _, _, _, _, _⟩) (v := ?_) rfl (by kernel_rfl) (fun _ _ _ h => h) (Or.inl ⟨by rfl, ?_⟩) hHeld ?_
        rotate_left
        · (intro w hSw; obtain ⟨x0, x1⟩ := HX.out _ hSw; go_simp <;> with_reducible rfl)
        try simp only [pqZ]
        refine wpAnyH_done (by kernel_rfl) ?_ _
        have hB2 := hB.trans (hHeld.mono hB.size)
        go_wp2_with fail
        go_ret
        exact ⟨retB HE.out.symm, hB2⟩
      · have HE : Hid (isG l = false) := Lib.hid (isG_bad hlt hq)
        clear hno hri hq
        generalize l[k] = v at *
        have HX : Hid (∀ V, Below wr.heap.size wr V → Lg.at v V b (o + k * 2)) := Lib.hid fun V hV => Lg.at_keep (w := wr) hg fun i => hV.cell (p := ⟨b, i, none⟩) hbw
        unfold Lg.at at HX
        obtain ⟨vi, vq⟩ := v
        simp only at *
        have d1 : decide (vi < 1) = false := decide_eq_false h1
        have d2 : decide (8 < vi) = false := decide_eq_false h2
        clear hg h1 h2
        go_wp2_with fail
        refine wp_region_held_drew (S := (fun V => Below wr.heap.size wr V)) (by kernel_rfl) (by exact (Below.refl _ _).drew) (fun hHeld => ?_)
        refine tkZ (i := 0) (oi := ⟨some 10, _, _, _, _, _⟩) (v := ?_) rfl (by kernel_rfl) (fun _ _ _ h => h) (Or.inl ⟨by rfl, ?_⟩) hHeld ?_
        rotate_left
        · (intro w hSw; obtain ⟨x0, x1⟩ := HX.out _ hSw; go_simp <;> with_reducible rfl)
        try simp only [pqZ]
        refine tkZ (i := 1) (oi := ⟨some 11, _, _, _, _, _⟩) (v := ?_) rfl (by kernel_rfl) (fun _ _ _ h => h) (Or.inl ⟨by rfl, ?_⟩) hHeld ?_
        rotate_left
        · (intro w hSw; obtain ⟨x0, x1⟩ := HX.out _ hSw; go_simp <;> with_reducible rfl)
        try simp only [pqZ]
        refine tkZ (i := 2) (oi := ⟨some 12, _, _, _, _, _⟩) (v := ?_) rfl (by kernel_rfl) (fun _ _ _ h => h) (Or.inl ⟨by rfl, ?_⟩) hHeld ?_
        rotate_left
        · (intro w hSw; obtain ⟨x0, x1⟩ := HX.out _ hSw; go_simp <;> with_reducible rfl)
        try simp only [pqZ]
        refine tkZ (i := 3) (oi := ⟨some 13, _, _, _, _, _⟩) (v := ?_) rfl (by kernel_rfl) (fun _ _ _ h => h) (Or.inl ⟨by rfl, ?_⟩) hHeld ?_
        rotate_left
        · (intro w hSw; obtain ⟨x0, x1⟩ := HX.out _ hSw; go_simp <;> with_reducible rfl)
        try simp only [pqZ]
        refine tkZ (i := 4) (oi := ⟨some 14, _, _, _, _, _⟩) (v := ?_) rfl (by kernel_rfl) (fun _ _ _ h => h) (Or.inl ⟨by rfl, ?_⟩) hHeld ?_
        rotate_left
        · (intro w hSw; obtain ⟨x0, x1⟩ := HX.out _ hSw; go_simp <;> with_reducible rfl)
        try simp only [pqZ]
        refine tkZ (i := 5) (oi := ⟨some 15, _, _, _, _, _⟩) (v := ?_) rfl (by kernel_rfl) (fun _ _ _ h => h) (Or.inl ⟨by rfl, ?_⟩) hHeld ?_
        rotate_left
        · (intro w hSw; obtain ⟨x0, x1⟩ := HX.out _ hSw; go_simp <;> with_reducible rfl)
        try simp only [pqZ]
        refine tkZ (i := 6) (oi := ⟨some 16, _, _, _, _, _⟩) (v := ?_) rfl (by kernel_rfl) (fun _ _ _ h => h) (Or.inl ⟨by rfl, ?_⟩) hHeld ?_
        rotate_left
        · (intro w hSw; obtain ⟨x0, x1⟩ := HX.out _ hSw; go_simp <;> with_reducible rfl)
        try simp only [pqZ]
        refine tkZ (i := 7) (oi := ⟨some 17, _, _, _, _, _⟩) (v := ?_) rfl (by kernel_rfl) (fun _ _ _ h => h) (Or.inl ⟨by rfl, ?_⟩) hHeld ?_
        rotate_left
        · (intro w hSw; obtain ⟨x0, x1⟩ := HX.out _ hSw; go_simp <;> with_reducible rfl)
        try simp only [pqZ]
        refine tkZ (i := 8) (oi := ⟨some 18, _, _, _, _, _⟩) (v := ?_) rfl (by kernel_rfl) (fun _ _ _ h => h) (Or.inl ⟨by rfl, ?_⟩) hHeld ?_
        rotate_left
        · (intro w hSw; obtain ⟨x0, x1⟩ := HX.out _ hSw; go_simp <;> with_reducible rfl)
        try simp only [pqZ]
        refine tkZ (i := 9) (oi := ⟨some 19, _, _, _, _, _⟩) (v := ?_) rfl (by kernel_rfl) (fun _ _ _ h => h) (Or.inl ⟨by rfl, ?_⟩) hHeld ?_
        rotate_left
        · (intro w hSw; obtain ⟨x0, x1⟩ := HX.out _ hSw; go_simp <;> with_reducible rfl)
        try simp only [pqZ]
        refine tkZ (i := 10) (oi := ⟨some 20, _, _, _, _, _⟩) (v := ?_) rfl (by kernel_rfl) (fun _ _ _ h => h) (Or.inl ⟨by rfl, ?_⟩) hHeld ?_
        rotate_left
        · (intro w hSw; obtain ⟨x0, x1⟩ := HX.out _ hSw; go_simp <;> with_reducible rfl)
        try simp only [pqZ]
        refine tkZ (i := 11) (oi := ⟨some 21, _, _, _, _, _⟩) (v := ?_) rfl (by kernel_rfl) (fun _ _ _ h => h) (Or.inl ⟨by rfl, ?_⟩) hHeld ?_
        rotate_left
        · (intro w hSw; obtain ⟨x0, x1⟩ := HX.out _ hSw; go_simp <;> with_reducible rfl)
        try simp only [pqZ]
        refine tkZ (i := 12) (oi := ⟨some 22, _, _, _, _, _⟩) (v := ?_) rfl (by kernel_rfl) (fun _ _ _ h => h) (Or.inl ⟨by rfl, ?_⟩) hHeld ?_
        rotate_left
        · (intro w hSw; obtain ⟨x0, x1⟩ := HX.out _ hSw; go_simp <;> with_reducible rfl)
        try simp only [pqZ]
        refine tkZ (i := 13) (oi := ⟨some 23, _, _, _, _, _⟩) (v := ?_) rfl (by kernel_rfl) (fun _ _ _ h => h) (Or.inl ⟨by rfl, ?_⟩) hHeld ?_
        rotate_left
        · (intro w hSw; obtain ⟨x0, x1⟩ := HX.out _ hSw; go_simp <;> with_reducible rfl)
        try simp only [pqZ]
        refine tkZ (i := 14) (oi := ⟨some 24, _, _, _, _, _⟩) (v := ?_) rfl (by kernel_rfl) (fun _ _ _ h => h) (Or.inl ⟨by rfl, ?_⟩) hHeld ?_
        rotate_left
        · (intro w hSw; obtain ⟨x0, x1⟩ := HX.out _ hSw; go_simp <;> with_reducible rfl)
        try simp only [pqZ]
        refine tkZ (i := 15) (oi := ⟨some 25, _, _, _, _, _⟩) (v := ?_) rfl (by kernel_rfl) (fun _ _ _ h => h) (Or.inl ⟨by rfl, ?_⟩) hHeld ?_
        rotate_left
        · (intro w hSw; obtain ⟨x0, x1⟩ := HX.out _ hSw; go_simp <;> with_reducible rfl)
        try simp only [pqZ]
        refine tkZ (i := 16) (oi := ⟨some 26, _, _, _, _, _⟩) (v := ?_) rfl (by kernel_rfl) (fun _ _ _ h => h) (Or.inl ⟨by rfl, ?_⟩) hHeld ?_
        rotate_left
        · (intro w hSw; obtain ⟨x0, x1⟩ := HX.out _ hSw; go_simp <;> with_reducible rfl)
        try simp only [pqZ]
        refine tkZ (i := 17) (oi := ⟨some 27, _, _, _, _, _⟩) (v := ?_) rfl (by kernel_rfl) (fun _ _ _ h => h) (Or.inl ⟨by rfl, ?_⟩) hHeld ?_
        rotate_left
        · (intro w hSw; obtain ⟨x0, x1⟩ := HX.out _ hSw; go_simp <;> with_reducible rfl)
        try simp only [pqZ]
        refine tkZ (i := 18) (oi := ⟨some 28, _, _, _, _, _⟩) (v := ?_) rfl (by kernel_rfl) (fun _ _ _ h => h) (Or.inl ⟨by rfl, ?_⟩) hHeld ?_
        rotate_left
        · (intro w hSw; obtain ⟨x0, x1⟩ := HX.out _ hSw; go_simp <;> with_reducible rfl)
        try simp only [pqZ]
        refine tkZ (i := 19) (oi := ⟨some 29, _, _, _, _, _⟩) (v := ?_) rfl (by kernel_rfl) (fun _ _ _ h => h) (Or.inl ⟨by rfl, ?_⟩) hHeld ?_
        rotate_left
        · (intro w hSw; obtain ⟨x0, x1⟩ := HX.out _ hSw; go_simp <;> with_reducible rfl)
        try simp only [pqZ]
        refine tkZ (i := 20) (oi := ⟨some 30, _, _, _, _, _⟩) (v := ?_) rfl (by kernel_rfl) (fun _ _ _ h => h) (Or.inl ⟨by rfl, ?_⟩) hHeld ?_
        rotate_left
        · (intro w hSw; obtain ⟨x0, x1⟩ := HX.out _ hSw; go_simp <;> with_reducible rfl)
        try simp only [pqZ]
        refine tkZ (i := 21) (oi := ⟨some 31, _, _, _, _, _⟩) (v := ?_) rfl (by kernel_rfl) (fun _ _ _ h => h) (Or.inl ⟨by rfl, ?_⟩) hHeld ?_
        rotate_left
        · (intro w hSw; obtain ⟨x0, x1⟩ := HX.out _ hSw; go_simp <;> with_reducible rfl)
        try simp only [pqZ]
        refine tkZ (i := 22) (oi := ⟨some 32, _, _, _, _, _⟩) (v := ?_) rfl (by kernel_rfl) (fun _ _ _ h => h) (Or.inl ⟨by rfl, ?_⟩) hHeld ?_
        rotate_left
        · (intro w hSw; obtain ⟨x0, x1⟩ := HX.out _ hSw; go_simp <;> with_reducible rfl)
        try simp only [pqZ]
        refine tkZ (i := 23) (oi := ⟨some 33, _, _, _, _, _⟩) (v := undef) rfl (by kernel_rfl) (fun _ _ _ h => h) (Or.inr ⟨by rfl, rfl⟩) hHeld ?_
        try simp only [pqZ]
        refine tkZ (i := 24) (oi := ⟨some 34, _, _, _, _, _⟩) (v := undef) rfl (by kernel_rfl) (fun _ _ _ h => h) (Or.inr ⟨by rfl, rfl⟩) hHeld ?_
        try simp only [pqZ]
        refine tkZ (i := 25) (oi := ⟨some 35, _, _, _, _, _⟩) (v := undef) rfl (by kernel_rfl) (fun _ _ _ h => h) (Or.inr ⟨by rfl, rfl⟩) hHeld ?_
        try simp only [pqZ]
        refine tkZ (i := 26) (oi := ⟨some 36, _, _, _, _, _⟩) (v := undef) rfl (by kernel_rfl) (fun _ _ _ h => h) (Or.inr ⟨by rfl, rfl⟩) hHeld ?_
        try simp only [pqZ]
        refine tkZ (i := 27) (oi := ⟨some 37, _, _, _, _, _⟩) (v := undef) rfl (by kernel_rfl) (fun _ _ _ h => h) (Or.inr ⟨by rfl, rfl⟩) hHeld ?_
        try simp only [pqZ]
        refine tkZ (i := 28) (oi := ⟨some 38, _, _, _, _, _⟩) (v := undef) rfl (by kernel_rfl) (fun _ _ _ h => h) (Or.inr ⟨by rfl, rfl⟩) hHeld ?_
        try simp only [pqZ]
        refine tkZ (i := 29) (oi := ⟨some 39, _, _, _, _, _⟩) (v := undef) rfl (by kernel_rfl) (fun _ _ _ h => h) (Or.inr ⟨by rfl, rfl⟩) hHeld ?_
        try simp only [pqZ]
        refine tkZ (i := 30) (oi := ⟨some 40, _, _, _, _, _⟩) (v := undef) rfl (by kernel_rfl) (fun _ _ _ h => h) (Or.inr ⟨by rfl, rfl⟩) hHeld ?_
        try simp only [pqZ]
        refine tkZ (i := 31) (oi := ⟨some 41, _, _, _, _, _⟩) (v := undef) rfl (by kernel_rfl) (fun _ _ _ h => h) (Or.inr ⟨by rfl, rfl⟩) hHeld ?_
        try simp only [pqZ]
        refine tkZ (i := 32) (oi := ⟨some 42, _, _, _, _, _⟩) (v := undef) rfl (by kernel_rfl) (fun _ _ _ h => h) (Or.inr ⟨by rfl, rfl⟩) hHeld ?_
        try simp only [pqZ]
        refine tkZ (i := 33) (oi := ⟨some 43, _, _, _, _, _⟩) (v := undef) rfl (by kernel_rfl) (fun _ _ _ h => h) (Or.inr ⟨by rfl, rfl⟩) hHeld ?_
        try simp only [pqZ]
        refine tkZ (i := 34) (oi := ⟨some 44, _, _, _, _, _⟩) (v := undef) rfl (by kernel_rfl) (fun _ _ _ h => h) (Or.inr ⟨by rfl, rfl⟩) hHeld ?_
        try simp only [pqZ]
        refine tkZ (i := 35) (oi := ⟨some 45, _, _, _, _, _⟩) (v := undef) rfl (by kernel_rfl) (fun _ _ _ h => h) (Or.inr ⟨by rfl, rfl⟩) hHeld ?_
        try simp only [pqZ]
        refine tkZ (i := 36) (oi := ⟨some 46, _, _, _, _, _⟩) (v := undef) rfl (by kernel_rfl) (fun _ _ _ h => h) (Or.inr ⟨by rfl, rfl⟩) hHeld ?_
        try simp only [pqZ]
        refine tkZ (i := 37) (oi := ⟨some 47, _, _, _, _, _⟩) (v := undef) rfl (by kernel_rfl) (fun _ _ _ h => h) (Or.inr ⟨by rfl, rfl⟩) hHeld ?_
        try simp only [pqZ]
        refine tkZ (i := 38) (oi := ⟨some 48, _, _, _, _, _⟩) (v := undef) rfl (by kernel_rfl) (fun _ _ _ h => h) (Or.inr ⟨by rfl, rfl⟩) hHeld ?_
        try simp only [pqZ]
        refine tkZ (i := 39) (oi := ⟨some 49, _, _, _, _, _⟩) (v := ?_) rfl (by kernel_rfl) (fun _ _ _ h => h) (Or.inl ⟨by rfl, ?_⟩) hHeld ?_
        rotate_left
        · (intro w hSw; obtain ⟨x0, x1⟩ := HX.out _ hSw; go_simp <;> with_reducible rfl)
        try simp only [pqZ]
        refine wpAnyH_done (by kernel_rfl) ?_ _
        have hB2 := hB.trans (hHeld.mono hB.size)
        go_wp2_with fail
        go_ret
        exact ⟨retB HE.out.symm, hB2⟩
      · have HN1 : Hid (∀ j, (hj : j < l.length) → j < k + 1 → okG l[j] = true) := Lib.hid (fun j hj hjk => by
          rcases Nat.lt_or_ge j k with h' | h'
          · exact hno j hj h'
          · obtain rfl : j = k := by omega
            exact hq)
        clear hno hq
        rcases Nat.eq_zero_or_pos k with hz | hz
        · have HN2 : Hid (∀ j, (hj : j + 1 < l.length) → j + 1 < k + 1 → ahG (l[j]'(by omega)) l[j + 1] = true) := Lib.hid (fun j hj h => absurd h (by omega))
          clear hri
          generalize l[k] = v at *
          have HX : Hid (∀ V, Below wr.heap.size wr V → Lg.at v V b (o + k * 2)) := Lib.hid fun V hV => Lg.at_keep (w := wr) hg fun i => hV.cell (p := ⟨b, i, none⟩) hbw
          have hzi : ¬ (0 : Int) < (k : Int) := by omega
          have hzd : decide ((0 : Int) < (k : Int)) = false := decide_eq_false hzi
          have hzn : ¬ 0 < k := by omega
          clear hz
          unfold Lg.at at HX
          obtain ⟨vi, vq⟩ := v
          simp only at *
          have d1 : decide (vi < 1) = false := decide_eq_false h1
          have d2 : decide (8 < vi) = false := decide_eq_false h2
          clear hg h1 h2
          go_wp2_with fail
          refine wp_region_held_drew (S := (fun V => Below wr.heap.size wr V)) (by kernel_rfl) (by exact (Below.refl _ _).drew) (fun hHeld => ?_)
          refine tkZ (i := 0) (oi := ⟨some 10, _, _, _, _, _⟩) (v := ?_) rfl (by kernel_rfl) (fun _ _ _ h => h) (Or.inl ⟨by rfl, ?_⟩) hHeld ?_
          rotate_left
          · (intro w hSw; obtain ⟨x0, x1⟩ := HX.out _ hSw; go_simp <;> with_reducible rfl)
          try simp only [pqZ]
          refine tkZ (i := 1) (oi := ⟨some 11, _, _, _, _, _⟩) (v := ?_) rfl (by kernel_rfl) (fun _ _ _ h => h) (Or.inl ⟨by rfl, ?_⟩) hHeld ?_
          rotate_left
          · (intro w hSw; obtain ⟨x0, x1⟩ := HX.out _ hSw; go_simp <;> with_reducible rfl)
          try simp only [pqZ]
          refine tkZ (i := 2) (oi := ⟨some 12, _, _, _, _, _⟩) (v := ?_) rfl (by kernel_rfl) (fun _ _ _ h => h) (Or.inl ⟨by rfl, ?_⟩) hHeld ?_
          rotate_left
          · (intro w hSw; obtain ⟨x0, x1⟩ := HX.out _ hSw; go_simp <;> with_reducible rfl)
          try simp only [pqZ]
          refine tkZ (i := 3) (oi := ⟨some 13, _, _, _, _, _⟩) (v := ?_) rfl (by kernel_rfl) (fun _ _ _ h => h) (Or.inl ⟨by rfl, ?_⟩) hHeld ?_
          rotate_left
          · (intro w hSw; obtain ⟨x0, x1⟩ := HX.out _ hSw; go_simp <;> with_reducible rfl)
          try simp only [pqZ]
          refine tkZ (i := 4) (oi := ⟨some 14, _, _, _, _, _⟩) (v := ?_) rfl (by kernel_rfl) (fun _ _ _ h => h) (Or.inl ⟨by rfl, ?_⟩) hHeld ?_
          rotate_left
          · (intro w hSw; obtain ⟨x0, x1⟩ := HX.out _ hSw; go_simp <;> with_reducible rfl)
          try simp only [pqZ]
          refine tkZ (i := 5) (oi := ⟨some 15, _, _, _, _, _⟩) (v := ?_) rfl (by kernel_rfl) (fun _ _ _ h => h) (Or.inl ⟨by rfl, ?_⟩) hHeld ?_
          rotate_left
          · (intro w hSw; obtain ⟨x0, x1⟩ := HX.out _ hSw; go_simp <;> with_reducible rfl)
          try simp only [pqZ]
          refine tkZ (i := 6) (oi := ⟨some 16, _, _, _, _, _⟩) (v := ?_) rfl (by kernel_rfl) (fun _ _ _ h => h) (Or.inl ⟨by rfl, ?_⟩) hHeld ?_
          rotate_left
          · (intro w hSw; obtain ⟨x0, x1⟩ := HX.out _ hSw; go_simp <;> with_reducible rfl)
          try simp only [pqZ]
          refine tkZ (i := 7) (oi := ⟨some 17, _, _, _, _, _⟩) (v := ?_) rfl (by kernel_rfl) (fun _ _ _ h => h) (Or.inl ⟨by rfl, ?_⟩) hHeld ?_
          rotate_left
          · (intro w hSw; obtain ⟨x0, x1⟩ := HX.out _ hSw; go_simp <;> with_reducible rfl)
          try simp only [pqZ]
          refine tkZ (i := 8) (oi := ⟨some 18, _, _, _, _, _⟩) (v := ?_) rfl (by kernel_rfl) (fun _ _ _ h => h) (Or.inl ⟨by rfl, ?_⟩) hHeld ?_
          rotate_left
          · (intro w hSw; obtain ⟨x0, x1⟩ := HX.out _ hSw; go_simp <;> with_reducible rfl)
          try simp only [pqZ]
          refine tkZ (i := 9) (oi := ⟨some 19, _, _, _, _, _⟩) (v := ?_) rfl (by kernel_rfl) (fun _ _ _ h => h) (Or.inl ⟨by rfl, ?_⟩) hHeld ?_
          rotate_left
          · (intro w hSw; obtain ⟨x0, x1⟩ := HX.out _ hSw; go_simp <;> with_reducible rfl)
          try simp only [pqZ]
          refine tkZ (i := 10) (oi := ⟨some 20, _, _, _, _, _⟩) (v := ?_) rfl (by kernel_rfl) (fun _ _ _ h => h) (Or.inl ⟨by rfl, ?_⟩) hHeld ?_
          rotate_left
          · (intro w hSw; obtain ⟨x0, x1⟩ := HX.out _ hSw; go_simp <;> with_reducible rfl)
          try simp only [pqZ]
          refine tkZ (i := 11) (oi := ⟨some 21, _, _, _, _, _⟩) (v := ?_) rfl (by kernel_rfl) (fun _ _ _ h => h) (Or.inl ⟨by rfl, ?_⟩) hHeld ?_
          rotate_left
          · (intro w hSw; obtain ⟨x0, x1⟩ := HX.out _ hSw; go_simp <;> with_reducible rfl)
          try simp only [pqZ]
          refine tkZ (i := 12) (oi := ⟨some 22, _, _, _, _, _⟩) (v := ?_) rfl (by kernel_rfl) (fun _ _ _ h => h) (Or.inl ⟨by rfl, ?_⟩) hHeld ?_
          rotate_left
          · (intro w hSw; obtain ⟨x0, x1⟩ := HX.out _ hSw; go_simp <;> with_reducible rfl)
          try simp only [pqZ]
          refine tkZ (i := 13) (oi := ⟨some 23, _, _, _, _, _⟩) (v := ?_) rfl (by kernel_rfl) (fun _ _ _ h => h) (Or.inl ⟨by rfl, ?_⟩) hHeld ?_
          rotate_left
          · (intro w hSw; obtain ⟨x0, x1⟩ := HX.out _ hSw; go_simp <;> with_reducible rfl)
          try simp only [pqZ]
          refine tkZ (i := 14) (oi := ⟨some 24, _, _, _, _, _⟩) (v := ?_) rfl (by kernel_rfl) (fun _ _ _ h => h) (Or.inl ⟨by rfl, ?_⟩) hHeld ?_
          rotate_left
          · (intro w hSw; obtain ⟨x0, x1⟩ := HX.out _ hSw; go_simp <;> with_reducible rfl)
          try simp only [pqZ]
          refine tkZ (i := 15) (oi := ⟨some 25, _, _, _, _, _⟩) (v := ?_) rfl (by kernel_rfl) (fun _ _ _ h => h) (Or.inl ⟨by rfl, ?_⟩) hHeld ?_
          rotate_left
          · (intro w hSw; obtain ⟨x0, x1⟩ := HX.out _ hSw; go_simp <;> with_reducible rfl)
          try simp only [pqZ]
          refine tkZ (i := 16) (oi := ⟨some 26, _, _, _, _, _⟩) (v := ?_) rfl (by kernel_rfl) (fun _ _ _ h => h) (Or.inl ⟨by rfl, ?_⟩) hHeld ?_
          rotate_left
          · (intro w hSw; obtain ⟨x0, x1⟩ := HX.out _ hSw; go_simp <;> with_reducible rfl)
          try simp only [pqZ]
          refine tkZ (i := 17) (oi := ⟨some 27, _, _, _, _, _⟩) (v := ?_) rfl (by kernel_rfl) (fun _ _ _ h => h) (Or.inl ⟨by rfl, ?_⟩) hHeld ?_
          rotate_left
          · (intro w hSw; obtain ⟨x0, x1⟩ := HX.out _ hSw; go_simp <;> with_reducible rfl)
          try simp only [pqZ]
          refine tkZ (i := 18) (oi := ⟨some 28, _, _, _, _, _⟩) (v := ?_) rfl (by kernel_rfl) (fun _ _ _ h => h) (Or.inl ⟨by rfl, ?_⟩) hHeld ?_
          rotate_left
          · (intro w hSw; obtain ⟨x0, x1⟩ := HX.out _ hSw; go_simp <;> with_reducible rfl)
          try simp only [pqZ]
          refine tkZ (i := 19) (oi := ⟨some 29, _, _, _, _, _⟩) (v := ?_) rfl (by kernel_rfl) (fun _ _ _ h => h) (Or.inl ⟨by rfl, ?_⟩) hHeld ?_
          rotate_left
          · (intro w hSw; obtain ⟨x0, x1⟩ := HX.out _ hSw; go_simp <;> with_reducible rfl)
          try simp only [pqZ]
          refine tkZ (i := 20) (oi := ⟨some 30, _, _, _, _, _⟩) (v := ?_) rfl (by kernel_rfl) (fun _ _ _ h => h) (Or.inl ⟨by rfl, ?_⟩) hHeld ?_
          rotate_left
          · (intro w hSw; obtain ⟨x0, x1⟩ := HX.out _ hSw; go_simp <;> with_reducible rfl)
          try simp only [pqZ]
          refine tkZ (i := 21) (oi := ⟨some 31, _, _, _, _, _⟩) (v := ?_) rfl (by kernel_rfl) (fun _ _ _ h => h) (Or.inl ⟨by rfl, ?_⟩) hHeld ?_
          rotate_left
          · (intro w hSw; obtain ⟨x0, x1⟩ := HX.out _ hSw; go_simp <;> with_reducible rfl)
          try simp only [pqZ]
          refine tkZ (i := 22) (oi := ⟨some 32, _, _, _, _, _⟩) (v := ?_) rfl (by kernel_rfl) (fun _ _ _ h => h) (Or.inl ⟨by rfl, ?_⟩) hHeld ?_
          rotate_left
          · (intro w hSw; obtain ⟨x0, x1⟩ := HX.out _ hSw; go_simp <;> with_reducible rfl)
          try simp only [pqZ]
          refine tkZ (i := 23) (oi := ⟨some 33, _, _, _, _, _⟩) (v := ?_) rfl (by kernel_rfl) (fun _ _ _ h => h) (Or.inl ⟨by rfl, ?_⟩) hHeld ?_
          rotate_left
          · (intro w hSw; obtain ⟨x0, x1⟩ := HX.out _ hSw; go_simp <;> with_reducible rfl)
          try simp only [pqZ]
          refine tkZ (i := 24) (oi := ⟨some 34, _, _, _, _, _⟩) (v := ?_) rfl (by kernel_rfl) (fun _ _ _ h => h) (Or.inl ⟨by rfl, ?_⟩) hHeld ?_
          rotate_left
          · (intro w hSw; obtain ⟨x0, x1⟩ := HX.out _ hSw; go_simp <;> with_reducible rfl)
          try simp only [pqZ]
          refine tkZ (i := 25) (oi := ⟨some 35, _, _, _, _, _⟩) (v := ?_) rfl (by kernel_rfl) (fun _ _ _ h => h) (Or.inl ⟨by rfl, ?_⟩) hHeld ?_
          rotate_left
          · (intro w hSw; obtain ⟨x0, x1⟩ := HX.out _ hSw; go_simp <;> with_reducible rfl)
          try simp only [pqZ]
          refine tkZ (i := 26) (oi := ⟨some 36, _, _, _, _, _⟩) (v := undef) rfl (by kernel_rfl) (fun _ _ _ h => h) (Or.inr ⟨by rfl, rfl⟩) hHeld ?_
          try simp only [pqZ]
          refine tkZ (i := 27) (oi := ⟨some 37, _, _, _, _, _⟩) (v := undef) rfl (by kernel_rfl) (fun _ _ _ h => h) (Or.inr ⟨by rfl, rfl⟩) hHeld ?_
          try simp only [pqZ]
          refine tkZ (i := 28) (oi := ⟨some 38, _, _, _, _, _⟩) (v := undef) rfl (by kernel_rfl) (fun _ _ _ h => h) (Or.inr ⟨by rfl, rfl⟩) hHeld ?_
          try simp only [pqZ]
          refine tkZ (i := 29) (oi := ⟨some 39, _, _, _, _, _⟩) (v := undef) rfl (by kernel_rfl) (fun _ _ _ h => h) (Or.inr ⟨by rfl, rfl⟩) hHeld ?_
          try simp only [pqZ]
          refine tkZ (i := 30) (oi := ⟨some 40, _, _, _, _, _⟩) (v := undef) rfl (by kernel_rfl) (fun _ _ _ h => h) (Or.inr ⟨by rfl, rfl⟩) hHeld ?_
          try simp only [pqZ]
          refine tkZ (i := 31) (oi := ⟨some 41, _, _, _, _, _⟩) (v := undef) rfl (by kernel_rfl) (fun _ _ _ h => h) (Or.inr ⟨by rfl, rfl⟩) hHeld ?_
          try simp only [pqZ]
          refine tkZ (i := 32) (oi := ⟨some 42, _, _, _, _, _⟩) (v := undef) rfl (by kernel_rfl) (fun _ _ _ h => h) (Or.inr ⟨by rfl, rfl⟩) hHeld ?_
          try simp only [pqZ]
          refine tkZ (i := 33) (oi := ⟨some 43, _, _, _, _, _⟩) (v := undef) rfl (by kernel_rfl) (fun _ _ _ h => h) (Or.inr ⟨by rfl, rfl⟩) hHeld ?_
          try simp only [pqZ]
          refine tkZ (i := 34) (oi := ⟨some 44, _, _, _, _, _⟩) (v := undef) rfl (by kernel_rfl) (fun _ _ _ h => h) (Or.inr ⟨by rfl, rfl⟩) hHeld ?_
          try simp only [pqZ]
          refine tkZ (i := 35) (oi := ⟨some 45, _, _, _, _, _⟩) (v := undef) rfl (by kernel_rfl) (fun _ _ _ h => h) (Or.inr ⟨by rfl, rfl⟩) hHeld ?_
          try simp only [pqZ]
          refine tkZ (i := 36) (oi := ⟨some 46, _, _, _, _, _⟩) (v := undef) rfl (by kernel_rfl) (fun _ _ _ h => h) (Or.inr ⟨by rfl, rfl⟩) hHeld ?_
          try simp only [pqZ]
          refine tkZ (i := 37) (oi := ⟨some 47, _, _, _, _, _⟩) (v := undef) rfl (by kernel_rfl) (fun _ _ _ h => h) (Or.inr ⟨by rfl, rfl⟩) hHeld ?_
          try simp only [pqZ]
          refine tkZ (i := 38) (oi := ⟨some 48, _, _, _, _, _⟩) (v := ?_) rfl (by kernel_rfl) (fun _ _ _ h => h) (Or.inl ⟨by rfl, ?_⟩) hHeld ?_
          rotate_left
          · (intro w hSw; obtain ⟨x0, x1⟩ := HX.out _ hSw; go_simp <;> with_reducible rfl)
          try simp only [pqZ]
          refine tkZ (i := 39) (oi := ⟨some 49, _, _, _, _, _⟩) (v := ?_) rfl (by kernel_rfl) (fun _ _ _ h => h) (Or.inl ⟨by rfl, ?_⟩) hHeld ?_
          rotate_left
          · (intro w hSw; obtain ⟨x0, x1⟩ := HX.out _ hSw; go_simp <;> with_reducible rfl)
          try simp only [pqZ]
          refine wpAnyH_done (by kernel_rfl) ?_ _
          have hB2 := hB.trans (hHeld.mono hB.size)
          go_wp2_with fail
          go_roundw
          case rel => exact ⟨k + 1, by omega, by go_num, HN1.out, HN2.out, hB2⟩
          case measure => simp [intOf]; omega
        · obtain ⟨j, rfl⟩ : ∃ j, k = j + 1 := ⟨k - 1, by omega⟩
          obtain ⟨b', o', e, _, hg'⟩ := (hs.below hB).lg (k := j) (by omega)
          injection e with e
          injection e with e1 e2 e3
          subst e1; subst e2
          have hj1 : IntKind.i64.wrap (j : Int) = (j : Int) := IntWalk.i64_in _ (by omega)
          have hj2 : (0 : Int) ≤ (j : Int) := by omega
          have hj3 : (j : Int) < (l.length : Int) := by omega
          have hj4 : (0 : Int) ≤ ((j + 1 : Nat) : Int) := by omega
          have hj5 : (0 : Int) ≤ (j : Int) + 1 := by omega
          have hj6 : (j : Int) + 1 < (l.length : Int) := by omega
          have hj7 : (0 : Int) < (j : Int) + 1 := by omega
          have HX : Hid (∀ V, Below wr.heap.size wr V → l[j + 1].at V b (o + (j + 1) * 2) ∧ (l[j]'(by omega)).at V b (o + j * 2)) := Lib.hid fun V hV => ⟨Lg.at_keep (w := wr) hg fun i => hV.cell (p := ⟨b, i, none⟩) hbw, Lg.at_keep (w := wr) hg' fun i => hV.cell (p := ⟨b, i, none⟩) hbw⟩
          clear hg hg'
          by_cases ha : (l[j]'(by omega)).ins < l[j + 1].ins
          · have HN2 : Hid (∀ i, (hi : i + 1 < l.length) → i + 1 < j + 1 + 1 → ahG (l[i]'(by omega)) l[i + 1] = true) := Lib.hid (fun i hi h => by
              rcases Nat.lt_or_ge i j with h' | h'
              · exact hri i hi (by omega)
              · obtain rfl : i = j := by omega
                exact decide_eq_true ha)
            clear hri
            generalize l[j + 1] = x at *
            obtain ⟨y, hy⟩ : ∃ y, (l[j]'(by omega)) = y := ⟨_, rfl⟩
            rw [hy] at HX ha
            clear hy
            unfold Lg.at at HX
            obtain ⟨vi, vq⟩ := x
            obtain ⟨ui, uq⟩ := y
            simp only at *
            have d1 : decide (vi < 1) = false := decide_eq_false h1
            have d2 : decide (8 < vi) = false := decide_eq_false h2
            have d4 : decide (vi ≤ ui) = false := decide_eq_false (by omega)
            have d5 : ¬ vi ≤ ui := by omega
            clear h1 h2 ha
            go_wp2_with fail
            refine wp_region_held_drew (S := (fun V => Below wr.heap.size wr V)) (by kernel_rfl) (by exact (Below.refl _ _).drew) (fun hHeld => ?_)
            refine tkZ (i := 0) (oi := ⟨some 10, _, _, _, _, _⟩) (v := ?_) rfl (by kernel_rfl) (fun _ _ _ h => h) (Or.inl ⟨by rfl, ?_⟩) hHeld ?_
            rotate_left
            · (intro w hSw; obtain ⟨⟨x0, x1⟩, y0, y1⟩ := HX.out _ hSw; go_simp <;> with_reducible rfl)
            try simp only [pqZ]
            refine tkZ (i := 1) (oi := ⟨some 11, _, _, _, _, _⟩) (v := ?_) rfl (by kernel_rfl) (fun _ _ _ h => h) (Or.inl ⟨by rfl, ?_⟩) hHeld ?_
            rotate_left
            · (intro w hSw; obtain ⟨⟨x0, x1⟩, y0, y1⟩ := HX.out _ hSw; go_simp <;> with_reducible rfl)
            try simp only [pqZ]
            refine tkZ (i := 2) (oi := ⟨some 12, _, _, _, _, _⟩) (v := ?_) rfl (by kernel_rfl) (fun _ _ _ h => h) (Or.inl ⟨by rfl, ?_⟩) hHeld ?_
            rotate_left
            · (intro w hSw; obtain ⟨⟨x0, x1⟩, y0, y1⟩ := HX.out _ hSw; go_simp <;> with_reducible rfl)
            try simp only [pqZ]
            refine tkZ (i := 3) (oi := ⟨some 13, _, _, _, _, _⟩) (v := ?_) rfl (by kernel_rfl) (fun _ _ _ h => h) (Or.inl ⟨by rfl, ?_⟩) hHeld ?_
            rotate_left
            · (intro w hSw; obtain ⟨⟨x0, x1⟩, y0, y1⟩ := HX.out _ hSw; go_simp <;> with_reducible rfl)
            try simp only [pqZ]
            refine tkZ (i := 4) (oi := ⟨some 14, _, _, _, _, _⟩) (v := ?_) rfl (by kernel_rfl) (fun _ _ _ h => h) (Or.inl ⟨by rfl, ?_⟩) hHeld ?_
            rotate_left
            · (intro w hSw; obtain ⟨⟨x0, x1⟩, y0, y1⟩ := HX.out _ hSw; go_simp <;> with_reducible rfl)
            try simp only [pqZ]
            refine tkZ (i := 5) (oi := ⟨some 15, _, _, _, _, _⟩) (v := ?_) rfl (by kernel_rfl) (fun _ _ _ h => h) (Or.inl ⟨by rfl, ?_⟩) hHeld ?_
            rotate_left
            · (intro w hSw; obtain ⟨⟨x0, x1⟩, y0, y1⟩ := HX.out _ hSw; go_simp <;> with_reducible rfl)
            try simp only [pqZ]
            refine tkZ (i := 6) (oi := ⟨some 16, _, _, _, _, _⟩) (v := ?_) rfl (by kernel_rfl) (fun _ _ _ h => h) (Or.inl ⟨by rfl, ?_⟩) hHeld ?_
            rotate_left
            · (intro w hSw; obtain ⟨⟨x0, x1⟩, y0, y1⟩ := HX.out _ hSw; go_simp <;> with_reducible rfl)
            try simp only [pqZ]
            refine tkZ (i := 7) (oi := ⟨some 17, _, _, _, _, _⟩) (v := ?_) rfl (by kernel_rfl) (fun _ _ _ h => h) (Or.inl ⟨by rfl, ?_⟩) hHeld ?_
            rotate_left
            · (intro w hSw; obtain ⟨⟨x0, x1⟩, y0, y1⟩ := HX.out _ hSw; go_simp <;> with_reducible rfl)
            try simp only [pqZ]
            refine tkZ (i := 8) (oi := ⟨some 18, _, _, _, _, _⟩) (v := ?_) rfl (by kernel_rfl) (fun _ _ _ h => h) (Or.inl ⟨by rfl, ?_⟩) hHeld ?_
            rotate_left
            · (intro w hSw; obtain ⟨⟨x0, x1⟩, y0, y1⟩ := HX.out _ hSw; go_simp <;> with_reducible rfl)
            try simp only [pqZ]
            refine tkZ (i := 9) (oi := ⟨some 19, _, _, _, _, _⟩) (v := ?_) rfl (by kernel_rfl) (fun _ _ _ h => h) (Or.inl ⟨by rfl, ?_⟩) hHeld ?_
            rotate_left
            · (intro w hSw; obtain ⟨⟨x0, x1⟩, y0, y1⟩ := HX.out _ hSw; go_simp <;> with_reducible rfl)
            try simp only [pqZ]
            refine tkZ (i := 10) (oi := ⟨some 20, _, _, _, _, _⟩) (v := ?_) rfl (by kernel_rfl) (fun _ _ _ h => h) (Or.inl ⟨by rfl, ?_⟩) hHeld ?_
            rotate_left
            · (intro w hSw; obtain ⟨⟨x0, x1⟩, y0, y1⟩ := HX.out _ hSw; go_simp <;> with_reducible rfl)
            try simp only [pqZ]
            refine tkZ (i := 11) (oi := ⟨some 21, _, _, _, _, _⟩) (v := ?_) rfl (by kernel_rfl) (fun _ _ _ h => h) (Or.inl ⟨by rfl, ?_⟩) hHeld ?_
            rotate_left
            · (intro w hSw; obtain ⟨⟨x0, x1⟩, y0, y1⟩ := HX.out _ hSw; go_simp <;> with_reducible rfl)
            try simp only [pqZ]
            refine tkZ (i := 12) (oi := ⟨some 22, _, _, _, _, _⟩) (v := ?_) rfl (by kernel_rfl) (fun _ _ _ h => h) (Or.inl ⟨by rfl, ?_⟩) hHeld ?_
            rotate_left
            · (intro w hSw; obtain ⟨⟨x0, x1⟩, y0, y1⟩ := HX.out _ hSw; go_simp <;> with_reducible rfl)
            try simp only [pqZ]
            refine tkZ (i := 13) (oi := ⟨some 23, _, _, _, _, _⟩) (v := ?_) rfl (by kernel_rfl) (fun _ _ _ h => h) (Or.inl ⟨by rfl, ?_⟩) hHeld ?_
            rotate_left
            · (intro w hSw; obtain ⟨⟨x0, x1⟩, y0, y1⟩ := HX.out _ hSw; go_simp <;> with_reducible rfl)
            try simp only [pqZ]
            refine tkZ (i := 14) (oi := ⟨some 24, _, _, _, _, _⟩) (v := ?_) rfl (by kernel_rfl) (fun _ _ _ h => h) (Or.inl ⟨by rfl, ?_⟩) hHeld ?_
            rotate_left
            · (intro w hSw; obtain ⟨⟨x0, x1⟩, y0, y1⟩ := HX.out _ hSw; go_simp <;> with_reducible rfl)
            try simp only [pqZ]
            refine tkZ (i := 15) (oi := ⟨some 25, _, _, _, _, _⟩) (v := ?_) rfl (by kernel_rfl) (fun _ _ _ h => h) (Or.inl ⟨by rfl, ?_⟩) hHeld ?_
            rotate_left
            · (intro w hSw; obtain ⟨⟨x0, x1⟩, y0, y1⟩ := HX.out _ hSw; go_simp <;> with_reducible rfl)
            try simp only [pqZ]
            refine tkZ (i := 16) (oi := ⟨some 26, _, _, _, _, _⟩) (v := ?_) rfl (by kernel_rfl) (fun _ _ _ h => h) (Or.inl ⟨by rfl, ?_⟩) hHeld ?_
            rotate_left
            · (intro w hSw; obtain ⟨⟨x0, x1⟩, y0, y1⟩ := HX.out _ hSw; go_simp <;> with_reducible rfl)
            try simp only [pqZ]
            refine tkZ (i := 17) (oi := ⟨some 27, _, _, _, _, _⟩) (v := ?_) rfl (by kernel_rfl) (fun _ _ _ h => h) (Or.inl ⟨by rfl, ?_⟩) hHeld ?_
            rotate_left
            · (intro w hSw; obtain ⟨⟨x0, x1⟩, y0, y1⟩ := HX.out _ hSw; go_simp <;> with_reducible rfl)
            try simp only [pqZ]
            refine tkZ (i := 18) (oi := ⟨some 28, _, _, _, _, _⟩) (v := ?_) rfl (by kernel_rfl) (fun _ _ _ h => h) (Or.inl ⟨by rfl, ?_⟩) hHeld ?_
            rotate_left
            · (intro w hSw; obtain ⟨⟨x0, x1⟩, y0, y1⟩ := HX.out _ hSw; go_simp <;> with_reducible rfl)
            try simp only [pqZ]
            refine tkZ (i := 19) (oi := ⟨some 29, _, _, _, _, _⟩) (v := ?_) rfl (by kernel_rfl) (fun _ _ _ h => h) (Or.inl ⟨by rfl, ?_⟩) hHeld ?_
            rotate_left
            · (intro w hSw; obtain ⟨⟨x0, x1⟩, y0, y1⟩ := HX.out _ hSw; go_simp <;> with_reducible rfl)
            try simp only [pqZ]
            refine tkZ (i := 20) (oi := ⟨some 30, _, _, _, _, _⟩) (v := ?_) rfl (by kernel_rfl) (fun _ _ _ h => h) (Or.inl ⟨by rfl, ?_⟩) hHeld ?_
            rotate_left
            · (intro w hSw; obtain ⟨⟨x0, x1⟩, y0, y1⟩ := HX.out _ hSw; go_simp <;> with_reducible rfl)
            try simp only [pqZ]
            refine tkZ (i := 21) (oi := ⟨some 31, _, _, _, _, _⟩) (v := ?_) rfl (by kernel_rfl) (fun _ _ _ h => h) (Or.inl ⟨by rfl, ?_⟩) hHeld ?_
            rotate_left
            · (intro w hSw; obtain ⟨⟨x0, x1⟩, y0, y1⟩ := HX.out _ hSw; go_simp <;> with_reducible rfl)
            try simp only [pqZ]
            refine tkZ (i := 22) (oi := ⟨some 32, _, _, _, _, _⟩) (v := ?_) rfl (by kernel_rfl) (fun _ _ _ h => h) (Or.inl ⟨by rfl, ?_⟩) hHeld ?_
            rotate_left
            · (intro w hSw; obtain ⟨⟨x0, x1⟩, y0, y1⟩ := HX.out _ hSw; go_simp <;> with_reducible rfl)
            try simp only [pqZ]
            refine tkZ (i := 23) (oi := ⟨some 33, _, _, _, _, _⟩) (v := ?_) rfl (by kernel_rfl) (fun _ _ _ h => h) (Or.inl ⟨by rfl, ?_⟩) hHeld ?_
            rotate_left
            · (intro w hSw; obtain ⟨⟨x0, x1⟩, y0, y1⟩ := HX.out _ hSw; go_simp <;> with_reducible rfl)
            try simp only [pqZ]
            refine tkZ (i := 24) (oi := ⟨some 34, _, _, _, _, _⟩) (v := ?_) rfl (by kernel_rfl) (fun _ _ _ h => h) (Or.inl ⟨by rfl, ?_⟩) hHeld ?_
            rotate_left
            · (intro w hSw; obtain ⟨⟨x0, x1⟩, y0, y1⟩ := HX.out _ hSw; go_simp <;> with_reducible rfl)
            try simp only [pqZ]
            refine tkZ (i := 25) (oi := ⟨some 35, _, _, _, _, _⟩) (v := ?_) rfl (by kernel_rfl) (fun _ _ _ h => h) (Or.inl ⟨by rfl, ?_⟩) hHeld ?_
            rotate_left
            · (intro w hSw; obtain ⟨⟨x0, x1⟩, y0, y1⟩ := HX.out _ hSw; go_simp <;> with_reducible rfl)
            try simp only [pqZ]
            refine tkZ (i := 26) (oi := ⟨some 36, _, _, _, _, _⟩) (v := ?_) rfl (by kernel_rfl) (fun _ _ _ h => h) (Or.inl ⟨by rfl, ?_⟩) hHeld ?_
            rotate_left
            · (intro w hSw; obtain ⟨⟨x0, x1⟩, y0, y1⟩ := HX.out _ hSw; go_simp <;> with_reducible rfl)
            try simp only [pqZ]
            refine tkZ (i := 27) (oi := ⟨some 37, _, _, _, _, _⟩) (v := ?_) rfl (by kernel_rfl) (fun _ _ _ h => h) (Or.inl ⟨by rfl, ?_⟩) hHeld ?_
            rotate_left
            · (intro w hSw; obtain ⟨⟨x0, x1⟩, y0, y1⟩ := HX.out _ hSw; go_simp <;> with_reducible rfl)
            try simp only [pqZ]
            refine tkZ (i := 28) (oi := ⟨some 38, _, _, _, _, _⟩) (v := ?_) rfl (by kernel_rfl) (fun _ _ _ h => h) (Or.inl ⟨by rfl, ?_⟩) hHeld ?_
            rotate_left
            · (intro w hSw; obtain ⟨⟨x0, x1⟩, y0, y1⟩ := HX.out _ hSw; go_simp <;> with_reducible rfl)
            try simp only [pqZ]
            refine tkZ (i := 29) (oi := ⟨some 39, _, _, _, _, _⟩) (v := ?_) rfl (by kernel_rfl) (fun _ _ _ h => h) (Or.inl ⟨by rfl, ?_⟩) hHeld ?_
            rotate_left
            · (intro w hSw; obtain ⟨⟨x0, x1⟩, y0, y1⟩ := HX.out _ hSw; go_simp <;> with_reducible rfl)
            try simp only [pqZ]
            refine tkZ (i := 30) (oi := ⟨some 40, _, _, _, _, _⟩) (v := ?_) rfl (by kernel_rfl) (fun _ _ _ h => h) (Or.inl ⟨by rfl, ?_⟩) hHeld ?_
            rotate_left
            · (intro w hSw; obtain ⟨⟨x0, x1⟩, y0, y1⟩ := HX.out _ hSw; go_simp <;> with_reducible rfl)
            try simp only [pqZ]
            refine tkZ (i := 31) (oi := ⟨some 41, _, _, _, _, _⟩) (v := ?_) rfl (by kernel_rfl) (fun _ _ _ h => h) (Or.inl ⟨by rfl, ?_⟩) hHeld ?_
            rotate_left
            · (intro w hSw; obtain ⟨⟨x0, x1⟩, y0, y1⟩ := HX.out _ hSw; go_simp <;> with_reducible rfl)
            try simp only [pqZ]
            refine tkZ (i := 32) (oi := ⟨some 42, _, _, _, _, _⟩) (v := ?_) rfl (by kernel_rfl) (fun _ _ _ h => h) (Or.inl ⟨by rfl, ?_⟩) hHeld ?_
            rotate_left
            · (intro w hSw; obtain ⟨⟨x0, x1⟩, y0, y1⟩ := HX.out _ hSw; go_simp <;> with_reducible rfl)
            try simp only [pqZ]
            refine tkZ (i := 33) (oi := ⟨some 43, _, _, _, _, _⟩) (v := ?_) rfl (by kernel_rfl) (fun _ _ _ h => h) (Or.inl ⟨by rfl, ?_⟩) hHeld ?_
            rotate_left
            · (intro w hSw; obtain ⟨⟨x0, x1⟩, y0, y1⟩ := HX.out _ hSw; go_simp <;> with_reducible rfl)
            try simp only [pqZ]
            refine tkZ (i := 34) (oi := ⟨some 44, _, _, _, _, _⟩) (v := ?_) rfl (by kernel_rfl) (fun _ _ _ h => h) (Or.inl ⟨by rfl, ?_⟩) hHeld ?_
            rotate_left
            · (intro w hSw; obtain ⟨⟨x0, x1⟩, y0, y1⟩ := HX.out _ hSw; go_simp <;> with_reducible rfl)
            try simp only [pqZ]
            refine tkZ (i := 35) (oi := ⟨some 45, _, _, _, _, _⟩) (v := ?_) rfl (by kernel_rfl) (fun _ _ _ h => h) (Or.inl ⟨by rfl, ?_⟩) hHeld ?_
            rotate_left
            · (intro w hSw; obtain ⟨⟨x0, x1⟩, y0, y1⟩ := HX.out _ hSw; go_simp <;> with_reducible rfl)
            try simp only [pqZ]
            refine tkZ (i := 36) (oi := ⟨some 46, _, _, _, _, _⟩) (v := ?_) rfl (by kernel_rfl) (fun _ _ _ h => h) (Or.inl ⟨by rfl, ?_⟩) hHeld ?_
            rotate_left
            · (intro w hSw; obtain ⟨⟨x0, x1⟩, y0, y1⟩ := HX.out _ hSw; go_simp <;> with_reducible rfl)
            try simp only [pqZ]
            refine tkZ (i := 37) (oi := ⟨some 47, _, _, _, _, _⟩) (v := ?_) rfl (by kernel_rfl) (fun _ _ _ h => h) (Or.inl ⟨by rfl, ?_⟩) hHeld ?_
            rotate_left
            · (intro w hSw; obtain ⟨⟨x0, x1⟩, y0, y1⟩ := HX.out _ hSw; go_simp <;> with_reducible rfl)
            try simp only [pqZ]
            refine tkZ (i := 38) (oi := ⟨some 48, _, _, _, _, _⟩) (v := ?_) rfl (by kernel_rfl) (fun _ _ _ h => h) (Or.inl ⟨by rfl, ?_⟩) hHeld ?_
            rotate_left
            · (intro w hSw; obtain ⟨⟨x0, x1⟩, y0, y1⟩ := HX.out _ hSw; go_simp <;> with_reducible rfl)
            try simp only [pqZ]
            refine tkZ (i := 39) (oi := ⟨some 49, _, _, _, _, _⟩) (v := ?_) rfl (by kernel_rfl) (fun _ _ _ h => h) (Or.inl ⟨by rfl, ?_⟩) hHeld ?_
            rotate_left
            · (intro w hSw; obtain ⟨⟨x0, x1⟩, y0, y1⟩ := HX.out _ hSw; go_simp <;> with_reducible rfl)
            try simp only [pqZ]
            refine wpAnyH_done (by kernel_rfl) ?_ _
            have hB2 := hB.trans (hHeld.mono hB.size)
            go_wp2_with fail
            go_roundw
            case rel => exact ⟨j + 1 + 1, by omega, by go_num, HN1.out, HN2.out, hB2⟩
            case measure => simp [intOf]; omega
          · have HE : Hid (isG l = false) := Lib.hid (isG_low hlt (decide_eq_false ha))
            clear hri HN1
            generalize l[j + 1] = x at *
            obtain ⟨y, hy⟩ : ∃ y, (l[j]'(by omega)) = y := ⟨_, rfl⟩
            rw [hy] at HX ha
            clear hy
            unfold Lg.at at HX
            obtain ⟨vi, vq⟩ := x
            obtain ⟨ui, uq⟩ := y
            simp only at *
            have d1 : decide (vi < 1) = false := decide_eq_false h1
            have d2 : decide (8 < vi) = false := decide_eq_false h2
            have d4 : decide (vi ≤ ui) = true := decide_eq_true (by omega)
            have d5 : vi ≤ ui := by omega
            clear h1 h2 ha
            go_wp2_with fail
            refine wp_region_held_drew (S := (fun V => Below wr.heap.size wr V)) (by kernel_rfl) (by exact (Below.refl _ _).drew) (fun hHeld => ?_)
            refine tkZ (i := 0) (oi := ⟨some 10, _, _, _, _, _⟩) (v := ?_) rfl (by kernel_rfl) (fun _ _ _ h => h) (Or.inl ⟨by rfl, ?_⟩) hHeld ?_
            rotate_left
            · (intro w hSw; obtain ⟨⟨x0, x1⟩, y0, y1⟩ := HX.out _ hSw; go_simp <;> with_reducible rfl)
            try simp only [pqZ]
            refine tkZ (i := 1) (oi := ⟨some 11, _, _, _, _, _⟩) (v := ?_) rfl (by kernel_rfl) (fun _ _ _ h => h) (Or.inl ⟨by rfl, ?_⟩) hHeld ?_
            rotate_left
            · (intro w hSw; obtain ⟨⟨x0, x1⟩, y0, y1⟩ := HX.out _ hSw; go_simp <;> with_reducible rfl)
            try simp only [pqZ]
            refine tkZ (i := 2) (oi := ⟨some 12, _, _, _, _, _⟩) (v := ?_) rfl (by kernel_rfl) (fun _ _ _ h => h) (Or.inl ⟨by rfl, ?_⟩) hHeld ?_
            rotate_left
            · (intro w hSw; obtain ⟨⟨x0, x1⟩, y0, y1⟩ := HX.out _ hSw; go_simp <;> with_reducible rfl)
            try simp only [pqZ]
            refine tkZ (i := 3) (oi := ⟨some 13, _, _, _, _, _⟩) (v := ?_) rfl (by kernel_rfl) (fun _ _ _ h => h) (Or.inl ⟨by rfl, ?_⟩) hHeld ?_
            rotate_left
            · (intro w hSw; obtain ⟨⟨x0, x1⟩, y0, y1⟩ := HX.out _ hSw; go_simp <;> with_reducible rfl)
            try simp only [pqZ]
            refine tkZ (i := 4) (oi := ⟨some 14, _, _, _, _, _⟩) (v := ?_) rfl (by kernel_rfl) (fun _ _ _ h => h) (Or.inl ⟨by rfl, ?_⟩) hHeld ?_
            rotate_left
            · (intro w hSw; obtain ⟨⟨x0, x1⟩, y0, y1⟩ := HX.out _ hSw; go_simp <;> with_reducible rfl)
            try simp only [pqZ]
            refine tkZ (i := 5) (oi := ⟨some 15, _, _, _, _, _⟩) (v := ?_) rfl (by kernel_rfl) (fun _ _ _ h => h) (Or.inl ⟨by rfl, ?_⟩) hHeld ?_
            rotate_left
            · (intro w hSw; obtain ⟨⟨x0, x1⟩, y0, y1⟩ := HX.out _ hSw; go_simp <;> with_reducible rfl)
            try simp only [pqZ]
            refine tkZ (i := 6) (oi := ⟨some 16, _, _, _, _, _⟩) (v := ?_) rfl (by kernel_rfl) (fun _ _ _ h => h) (Or.inl ⟨by rfl, ?_⟩) hHeld ?_
            rotate_left
            · (intro w hSw; obtain ⟨⟨x0, x1⟩, y0, y1⟩ := HX.out _ hSw; go_simp <;> with_reducible rfl)
            try simp only [pqZ]
            refine tkZ (i := 7) (oi := ⟨some 17, _, _, _, _, _⟩) (v := ?_) rfl (by kernel_rfl) (fun _ _ _ h => h) (Or.inl ⟨by rfl, ?_⟩) hHeld ?_
            rotate_left
            · (intro w hSw; obtain ⟨⟨x0, x1⟩, y0, y1⟩ := HX.out _ hSw; go_simp <;> with_reducible rfl)
            try simp only [pqZ]
            refine tkZ (i := 8) (oi := ⟨some 18, _, _, _, _, _⟩) (v := ?_) rfl (by kernel_rfl) (fun _ _ _ h => h) (Or.inl ⟨by rfl, ?_⟩) hHeld ?_
            rotate_left
            · (intro w hSw; obtain ⟨⟨x0, x1⟩, y0, y1⟩ := HX.out _ hSw; go_simp <;> with_reducible rfl)
            try simp only [pqZ]
            refine tkZ (i := 9) (oi := ⟨some 19, _, _, _, _, _⟩) (v := ?_) rfl (by kernel_rfl) (fun _ _ _ h => h) (Or.inl ⟨by rfl, ?_⟩) hHeld ?_
            rotate_left
            · (intro w hSw; obtain ⟨⟨x0, x1⟩, y0, y1⟩ := HX.out _ hSw; go_simp <;> with_reducible rfl)
            try simp only [pqZ]
            refine tkZ (i := 10) (oi := ⟨some 20, _, _, _, _, _⟩) (v := ?_) rfl (by kernel_rfl) (fun _ _ _ h => h) (Or.inl ⟨by rfl, ?_⟩) hHeld ?_
            rotate_left
            · (intro w hSw; obtain ⟨⟨x0, x1⟩, y0, y1⟩ := HX.out _ hSw; go_simp <;> with_reducible rfl)
            try simp only [pqZ]
            refine tkZ (i := 11) (oi := ⟨some 21, _, _, _, _, _⟩) (v := ?_) rfl (by kernel_rfl) (fun _ _ _ h => h) (Or.inl ⟨by rfl, ?_⟩) hHeld ?_
            rotate_left
            · (intro w hSw; obtain ⟨⟨x0, x1⟩, y0, y1⟩ := HX.out _ hSw; go_simp <;> with_reducible rfl)
            try simp only [pqZ]
            refine tkZ (i := 12) (oi := ⟨some 22, _, _, _, _, _⟩) (v := ?_) rfl (by kernel_rfl) (fun _ _ _ h => h) (Or.inl ⟨by rfl, ?_⟩) hHeld ?_
            rotate_left
            · (intro w hSw; obtain ⟨⟨x0, x1⟩, y0, y1⟩ := HX.out _ hSw; go_simp <;> with_reducible rfl)
            try simp only [pqZ]
            refine tkZ (i := 13) (oi := ⟨some 23, _, _, _, _, _⟩) (v := ?_) rfl (by kernel_rfl) (fun _ _ _ h => h) (Or.inl ⟨by rfl, ?_⟩) hHeld ?_
            rotate_left
            · (intro w hSw; obtain ⟨⟨x0, x1⟩, y0, y1⟩ := HX.out _ hSw; go_simp <;> with_reducible rfl)
            try simp only [pqZ]
            refine tkZ (i := 14) (oi := ⟨some 24, _, _, _, _, _⟩) (v := ?_) rfl (by kernel_rfl) (fun _ _ _ h => h) (Or.inl ⟨by rfl, ?_⟩) hHeld ?_
            rotate_left
            · (intro w hSw; obtain ⟨⟨x0, x1⟩, y0, y1⟩ := HX.out _ hSw; go_simp <;> with_reducible rfl)
            try simp only [pqZ]
            refine tkZ (i := 15) (oi := ⟨some 25, _, _, _, _, _⟩) (v := ?_) rfl (by kernel_rfl) (fun _ _ _ h => h) (Or.inl ⟨by rfl, ?_⟩) hHeld ?_
            rotate_left
            · (intro w hSw; obtain ⟨⟨x0, x1⟩, y0, y1⟩ := HX.out _ hSw; go_simp <;> with_reducible rfl)
            try simp only [pqZ]
            refine tkZ (i := 16) (oi := ⟨some 26, _, _, _, _, _⟩) (v := ?_) rfl (by kernel_rfl) (fun _ _ _ h => h) (Or.inl ⟨by rfl, ?_⟩) hHeld ?_
            rotate_left
            · (intro w hSw; obtain ⟨⟨x0, x1⟩, y0, y1⟩ := HX.out _ hSw; go_simp <;> with_reducible rfl)
            try simp only [pqZ]
            refine tkZ (i := 17) (oi := ⟨some 27, _, _, _, _, _⟩) (v := ?_) rfl (by kernel_rfl) (fun _ _ _ h => h) (Or.inl ⟨by rfl, ?_⟩) hHeld ?_
            rotate_left
            · (intro w hSw; obtain ⟨⟨x0, x1⟩, y0, y1⟩ := HX.out _ hSw; go_simp <;> with_reducible rfl)
            try simp only [pqZ]
            refine tkZ (i := 18) (oi := ⟨some 28, _, _, _, _, _⟩) (v := ?_) rfl (by kernel_rfl) (fun _ _ _ h => h) (Or.inl ⟨by rfl, ?_⟩) hHeld ?_
            rotate_left
            · (intro w hSw; obtain ⟨⟨x0, x1⟩, y0, y1⟩ := HX.out _ hSw; go_simp <;> with_reducible rfl)
            try simp only [pqZ]
            refine tkZ (i := 19) (oi := ⟨some 29, _, _, _, _, _⟩) (v := ?_) rfl (by kernel_rfl) (fun _ _ _ h => h) (Or.inl ⟨by rfl, ?_⟩) hHeld ?_
            rotate_left
            · (intro w hSw; obtain ⟨⟨x0, x1⟩, y0, y1⟩ := HX.out _ hSw; go_simp <;> with_reducible rfl)
            try simp only [pqZ]
            refine tkZ (i := 20) (oi := ⟨some 30, _, _, _, _, _⟩) (v := ?_) rfl (by kernel_rfl) (fun _ _ _ h => h) (Or.inl ⟨by rfl, ?_⟩) hHeld ?_
            rotate_left
            · (intro w hSw; obtain ⟨⟨x0, x1⟩, y0, y1⟩ := HX.out _ hSw; go_simp <;> with_reducible rfl)
            try simp only [pqZ]
            refine tkZ (i := 21) (oi := ⟨some 31, _, _, _, _, _⟩) (v := ?_) rfl (by kernel_rfl) (fun _ _ _ h => h) (Or.inl ⟨by rfl, ?_⟩) hHeld ?_
            rotate_left
            · (intro w hSw; obtain ⟨⟨x0, x1⟩, y0, y1⟩ := HX.out _ hSw; go_simp <;> with_reducible rfl)
            try simp only [pqZ]
            refine tkZ (i := 22) (oi := ⟨some 32, _, _, _, _, _⟩) (v := ?_) rfl (by kernel_rfl) (fun _ _ _ h => h) (Or.inl ⟨by rfl, ?_⟩) hHeld ?_
            rotate_left
            · (intro w hSw; obtain ⟨⟨x0, x1⟩, y0, y1⟩ := HX.out _ hSw; go_simp <;> with_reducible rfl)
            try simp only [pqZ]
            refine tkZ (i := 23) (oi := ⟨some 33, _, _, _, _, _⟩) (v := ?_) rfl (by kernel_rfl) (fun _ _ _ h => h) (Or.inl ⟨by rfl, ?_⟩) hHeld ?_
            rotate_left
            · (intro w hSw; obtain ⟨⟨x0, x1⟩, y0, y1⟩ := HX.out _ hSw; go_simp <;> with_reducible rfl)
            try simp only [pqZ]
            refine tkZ (i := 24) (oi := ⟨some 34, _, _, _, _, _⟩) (v := ?_) rfl (by kernel_rfl) (fun _ _ _ h => h) (Or.inl ⟨by rfl, ?_⟩) hHeld ?_
            rotate_left
            · (intro w hSw; obtain ⟨⟨x0, x1⟩, y0, y1⟩ := HX.out _ hSw; go_simp <;> with_reducible rfl)
            try simp only [pqZ]
            refine tkZ (i := 25) (oi := ⟨some 35, _, _, _, _, _⟩) (v := ?_) rfl (by kernel_rfl) (fun _ _ _ h => h) (Or.inl ⟨by rfl, ?_⟩) hHeld ?_
            rotate_left
            · (intro w hSw; obtain ⟨⟨x0, x1⟩, y0, y1⟩ := HX.out _ hSw; go_simp <;> with_reducible rfl)
            try simp only [pqZ]
            refine tkZ (i := 26) (oi := ⟨some 36, _, _, _, _, _⟩) (v := ?_) rfl (by kernel_rfl) (fun _ _ _ h => h) (Or.inl ⟨by rfl, ?_⟩) hHeld ?_
            rotate_left
            · (intro w hSw; obtain ⟨⟨x0, x1⟩, y0, y1⟩ := HX.out _ hSw; go_simp <;> with_reducible rfl)
            try simp only [pqZ]
            refine tkZ (i := 27) (oi := ⟨some 37, _, _, _, _, _⟩) (v := ?_) rfl (by kernel_rfl) (fun _ _ _ h => h) (Or.inl ⟨by rfl, ?_⟩) hHeld ?_
            rotate_left
            · (intro w hSw; obtain ⟨⟨x0, x1⟩, y0, y1⟩ := HX.out _ hSw; go_simp <;> with_reducible rfl)
            try simp only [pqZ]
            refine tkZ (i := 28) (oi := ⟨some 38, _, _, _, _, _⟩) (v := ?_) rfl (by kernel_rfl) (fun _ _ _ h => h) (Or.inl ⟨by rfl, ?_⟩) hHeld ?_
            rotate_left
            · (intro w hSw; obtain ⟨⟨x0, x1⟩, y0, y1⟩ := HX.out _ hSw; go_simp <;> with_reducible rfl)
            try simp only [pqZ]
            refine tkZ (i := 29) (oi := ⟨some 39, _, _, _, _, _⟩) (v := ?_) rfl (by kernel_rfl) (fun _ _ _ h => h) (Or.inl ⟨by rfl, ?_⟩) hHeld ?_
            rotate_left
            · (intro w hSw; obtain ⟨⟨x0, x1⟩, y0, y1⟩ := HX.out _ hSw; go_simp <;> with_reducible rfl)
            try simp only [pqZ]
            refine tkZ (i := 30) (oi := ⟨some 40, _, _, _, _, _⟩) (v := ?_) rfl (by kernel_rfl) (fun _ _ _ h => h) (Or.inl ⟨by rfl, ?_⟩) hHeld ?_
            rotate_left
            · (intro w hSw; obtain ⟨⟨x0, x1⟩, y0, y1⟩ := HX.out _ hSw; go_simp <;> with_reducible rfl)
            try simp only [pqZ]
            refine tkZ (i := 31) (oi := ⟨some 41, _, _, _, _, _⟩) (v := ?_) rfl (by kernel_rfl) (fun _ _ _ h => h) (Or.inl ⟨by rfl, ?_⟩) hHeld ?_
            rotate_left
            · (intro w hSw; obtain ⟨⟨x0, x1⟩, y0, y1⟩ := HX.out _ hSw; go_simp <;> with_reducible rfl)
            try simp only [pqZ]
            refine tkZ (i := 32) (oi := ⟨some 42, _, _, _, _, _⟩) (v := ?_) rfl (by kernel_rfl) (fun _ _ _ h => h) (Or.inl ⟨by rfl, ?_⟩) hHeld ?_
            rotate_left
            · (intro w hSw; obtain ⟨⟨x0, x1⟩, y0, y1⟩ := HX.out _ hSw; go_simp <;> with_reducible rfl)
            try simp only [pqZ]
            refine tkZ (i := 33) (oi := ⟨some 43, _, _, _, _, _⟩) (v := ?_) rfl (by kernel_rfl) (fun _ _ _ h => h) (Or.inl ⟨by rfl, ?_⟩) hHeld ?_
            rotate_left
            · (intro w hSw; obtain ⟨⟨x0, x1⟩, y0, y1⟩ := HX.out _ hSw; go_simp <;> with_reducible rfl)
            try simp only [pqZ]
            refine tkZ (i := 34) (oi := ⟨some 44, _, _, _, _, _⟩) (v := ?_) rfl (by kernel_rfl) (fun _ _ _ h => h) (Or.inl ⟨by rfl, ?_⟩) hHeld ?_
            rotate_left
            · (intro w hSw; obtain ⟨⟨x0, x1⟩, y0, y1⟩ := HX.out _ hSw; go_simp <;> with_reducible rfl)
            try simp only [pqZ]
            refine tkZ (i := 35) (oi := ⟨some 45, _, _, _, _, _⟩) (v := ?_) rfl (by kernel_rfl) (fun _ _ _ h => h) (Or.inl ⟨by rfl, ?_⟩) hHeld ?_
            rotate_left
            · (intro w hSw; obtain ⟨⟨x0, x1⟩, y0, y1⟩ := HX.out _ hSw; go_simp <;> with_reducible rfl)
            try simp only [pqZ]
            refine tkZ (i := 36) (oi := ⟨some 46, _, _, _, _, _⟩) (v := ?_) rfl (by kernel_rfl) (fun _ _ _ h => h) (Or.inl ⟨by rfl, ?_⟩) hHeld ?_
            rotate_left
            · (intro w hSw; obtain ⟨⟨x0, x1⟩, y0, y1⟩ := HX.out _ hSw; go_simp <;> with_reducible rfl)
            try simp only [pqZ]
            refine tkZ (i := 37) (oi := ⟨some 47, _, _, _, _, _⟩) (v := ?_) rfl (by kernel_rfl) (fun _ _ _ h => h) (Or.inl ⟨by rfl, ?_⟩) hHeld ?_
            rotate_left
            · (intro w hSw; obtain ⟨⟨x0, x1⟩, y0, y1⟩ := HX.out _ hSw; go_simp <;> with_reducible rfl)
            try simp only [pqZ]
            refine tkZ (i := 38) (oi := ⟨some 48, _, _, _, _, _⟩) (v := ?_) rfl (by kernel_rfl) (fun _ _ _ h => h) (Or.inl ⟨by rfl, ?_⟩) hHeld ?_
            rotate_left
            · (intro w hSw; obtain ⟨⟨x0, x1⟩, y0, y1⟩ := HX.out _ hSw; go_simp <;> with_reducible rfl)
            try simp only [pqZ]
            refine tkZ (i := 39) (oi := ⟨some 49, _, _, _, _, _⟩) (v := ?_) rfl (by kernel_rfl) (fun _ _ _ h => h) (Or.inl ⟨by rfl, ?_⟩) hHeld ?_
            rotate_left
            · (intro w hSw; obtain ⟨⟨x0, x1⟩, y0, y1⟩ := HX.out _ hSw; go_simp <;> with_reducible rfl)
            try simp only [pqZ]
            refine wpAnyH_done (by kernel_rfl) ?_ _
            have hB2 := hB.trans (hHeld.mono hB.size)
            go_wp2_with fail
            go_ret
            exact ⟨retB HE.out.symm, hB2⟩
    · obtain rfl : k = l.length := by omega
      have HE : Hid (isG l = true) := Lib.hid (isG_end (fun j hj => hno j hj hj) (fun j hj => hri j hj hj))
      clear hno hri
      go_wp2_with fail
      go_ret
      exact ⟨retB HE.out.symm, hB⟩
set_option maxHeartbeats 2000000 in
set_option maxRecDepth 100000 in
theorem rvget_any (A : Option Addr) (cap : Nat) (l : List Lg) (a : Int) (w : World) (hl : l.length ≤ 1000000) (hs : Sl w A (rc Lg.cells l)) :
    Calls Tryz.prog 98 #[.slice A l.length cap, .int .i64 a] w fun e w' => e = .returned (.int .i64 (getG l a)) ∧ Below w.heap.size w w' := by
  go_enter Tryz.func98, Tryz.ntmps98
  go_wp2_with fail
  go_loopw [5] (fun i wr => ∃ k : Nat, k ≤ l.length ∧ i = .int .i64 k ∧ (∀ j, (hj : j < l.length) → j < k → inG a l[j] = false) ∧ Below w.heap.size w wr) (fun i _ => l.length - (intOf i).toNat)
  case atStart => exact ⟨0, by omega, rfl, fun j hj h => absurd h (by omega), Below.refl _ _⟩
  case round =>
    obtain ⟨k, hk, rfl, hno, hB⟩ := hrel
    by_cases hlt : k < l.length
    · obtain ⟨b, o, rfl, hbw, hg⟩ := (hs.below hB).lg hlt
      have hlk : (k : Int) < (l.length : Int) := by omega
      have HY : Hid (inG a l[k] = true → getG l a = l[k].qty) := Lib.hid (fun h => by unfold getG; rw [pickL, find_some hlt (fun j hj => hno j (by omega) hj) h]; rfl)
      have HNX : Hid (inG a l[k] = false → ∀ j, (hj : j < l.length) → j < k + 1 → inG a l[j] = false) := Lib.hid (fun h j hj hjk => by
        rcases Nat.lt_or_ge j k with h' | h'
        · exact hno j hj h'
        · obtain rfl : j = k := by omega
          exact h)
      clear hno
      generalize l[k] = v at *
      obtain ⟨xa, xq⟩ := v
      obtain ⟨g0, g1⟩ := hg
      simp only at g0 g1
      by_cases h1 : xa = a
      · have HE := Lib.hid (HY.out (by simp [inG, h1]))
        have h1b : (xa == a) = true := by simpa using h1
        clear HY HNX h1
        go_wp2_with fail
        go_ret
        exact ⟨retI HE.out.symm, hB⟩
      · have HN := Lib.hid (HNX.out (by simp [inG, h1]))
        have h1b : (xa == a) = false := by simpa using h1
        clear HY HNX h1
        go_wp2_with fail
        go_roundw
        case rel => exact ⟨k + 1, by omega, by go_num, HN.out, hB⟩
        case measure => simp [intOf]; omega
    · have HE : Hid (getG l a = 0) := Lib.hid (by unfold getG; rw [pickL, find_none (fun j hj => hno j hj (by omega))]; rfl)
      clear hno
      go_wp2_with fail
      go_ret
      exact ⟨retI HE.out.symm, hB⟩
theorem list_eq_ofG {α : Type} {a b : List α} (hl : a.length = b.length) (h : ∀ j, (h1 : j < a.length) → (h2 : j < b.length) → a[j] = b[j]) : a = b := List.ext_getElem hl fun j h1 h2 => h j h1 h2
theorem few11_any (A : Option Addr) (cap : Nat) (l : List Lg) (w : World) (hc : l.length ≤ cap) (hcm : cap ≤ maxLen) (hs : Sl w A (rc Lg.cells l)) :
    Calls Tryz.prog 58 #[.slice A l.length cap] w fun e w' => e = .returned (.slice A (l.take 12).length cap) ∧ Below w.heap.size w w' := by
  by_cases h : 12 < l.length
  · have hl : (l.take 12).length = 12 := by simp; omega
    rw [hl]
    have h40 : 12 ≤ cap := by omega
    cases A with
    | none => obtain ⟨b, o, e, _⟩ := hs.lg (k := 0) (by omega); cases e
    | some ad =>
      go_enter Tryz.func58, Tryz.ntmps58
      go_wp2
      go_ret
      exact ⟨rfl, Below.refl _ _⟩
  · have hl : (l.take 12).length = l.length := by simp; omega
    rw [hl]
    go_enter Tryz.func58, Tryz.ntmps58
    go_wp2
    go_ret
    exact ⟨rfl, Below.refl _ _⟩
set_option maxHeartbeats 4000000 in
set_option maxRecDepth 100000 in
theorem rvsame_any (A A2 : Option Addr) (cap cap2 : Nat) (l m : List Lg) (w : World) (hl : l.length ≤ 1000000) (hs : Sl w A (rc Lg.cells l)) (hs2 : Sl w A2 (rc Lg.cells m)) :
    Calls Tryz.prog 21 #[.slice A l.length cap, .slice A2 m.length cap2] w fun e w' => e = .returned (.bool (decide (l = m))) ∧ Below w.heap.size w w' := by
  by_cases hlen : l.length = m.length
  · go_enter Tryz.func21, Tryz.ntmps21
    rw [← hlen]
    have HLM := Lib.hid hlen
    clear hlen
    go_wp2_with fail
    go_loopw [5] (fun i wr => ∃ k : Nat, k ≤ l.length ∧ i = .int .i64 k ∧ (∀ j, (h1 : j < l.length) → (h2 : j < m.length) → j < k → l[j] = m[j]) ∧ Below w.heap.size w wr) (fun i _ => l.length - (intOf i).toNat)
    case atStart => exact ⟨0, by omega, rfl, fun j _ _ h => absurd h (by omega), Below.refl _ _⟩
    case round =>
      obtain ⟨k, hk, rfl, hno, hB⟩ := hrel
      by_cases hlt : k < l.length
      · have hlt2 : k < m.length := by rw [← HLM.out]; exact hlt
        obtain ⟨b, o, rfl, hbw, hg⟩ := hs.lg hlt
        obtain ⟨b2, o2, rfl, hbw2, hg2⟩ := hs2.lg hlt2
        have hbr : b < wr.heap.size := Nat.lt_of_lt_of_le hbw hB.size
        have hbr2 : b2 < wr.heap.size := Nat.lt_of_lt_of_le hbw2 hB.size
        have hsz : w.heap.size ≤ wr.heap.size := hB.size
        have HK1 : Hid (∀ V, Below wr.heap.size wr V → l[k].at V b (o + k * 2)) := Lib.hid fun V hV =>
          Lg.at_keep hg fun i => (hV.cell (p := ⟨b, i, none⟩) hbr).trans (hB.cell (p := ⟨b, i, none⟩) hbw)
        have HK0 : Hid (∀ V, Below wr.heap.size wr V → m[k].at V b2 (o2 + k * 2)) := Lib.hid fun V hV =>
          Lg.at_keep hg2 fun i => (hV.cell (p := ⟨b2, i, none⟩) hbr2).trans (hB.cell (p := ⟨b2, i, none⟩) hbw2)
        have HX : Hid (if l[k] = m[k] then (∀ j, (h1 : j < l.length) → (h2 : j < m.length) → j < k + 1 → l[j] = m[j]) else decide (l = m) = false) := Lib.hid (by
          split
          · rename_i he
            intro j h1 h2 hj
            rcases Nat.lt_or_ge j k with h | h
            · exact hno j h1 h2 h
            · obtain rfl : j = k := by omega
              exact he
          · rename_i he
            rw [decide_eq_false]
            intro e
            subst e
            exact he rfl)
        have hlk : (k : Int) < (l.length : Int) := by omega
        clear hno hs hs2 hg hg2 hbw hbw2
        generalize l[k] = v at HK1 HX
        generalize m[k] = u at HK0 HX
        obtain ⟨f0, f1⟩ := v
        obtain ⟨e0, e1⟩ := u
        unfold Lg.at at HK1 HK0
        simp only at HK1 HK0
        by_cases d0 : f0 = e0
        · subst d0
          by_cases d1 : f1 = e1
          · subst d1
            have HN : Hid (∀ j, (h1 : j < l.length) → (h2 : j < m.length) → j < k + 1 → l[j] = m[j]) := Lib.hid (by have := HX.out; rw [if_pos rfl] at this; exact this)
            clear HX
            go_wp2_with fail
            refine wp_region_held_drew (S := (fun V => Below wr.heap.size wr V)) (by kernel_rfl) (by exact (Below.refl _ _).drew) (fun hHeld => ?_)
            refine tkZ (i := 0) (oi := ⟨some 17, _, _, _, _, _⟩) (v := ?_) rfl (by kernel_rfl) (fun _ _ _ h => h) (Or.inl ⟨by rfl, ?_⟩) hHeld ?_
            rotate_left
            · (intro w hSw; obtain ⟨g0, g1⟩ := HK1.out _ hSw; obtain ⟨h0, h1⟩ := HK0.out _ hSw; go_simp <;> with_reducible rfl)
            try simp only [pqZ]
            refine tkZ (i := 1) (oi := ⟨some 18, _, _, _, _, _⟩) (v := ?_) rfl (by kernel_rfl) (fun _ _ _ h => h) (Or.inl ⟨by rfl, ?_⟩) hHeld ?_
            rotate_left
            · (intro w hSw; obtain ⟨g0, g1⟩ := HK1.out _ hSw; obtain ⟨h0, h1⟩ := HK0.out _ hSw; go_simp <;> with_reducible rfl)
            try simp only [pqZ]
            refine tkZ (i := 2) (oi := ⟨some 19, _, _, _, _, _⟩) (v := ?_) rfl (by kernel_rfl) (fun _ _ _ h => h) (Or.inl ⟨by rfl, ?_⟩) hHeld ?_
            rotate_left
            · (intro w hSw; obtain ⟨g0, g1⟩ := HK1.out _ hSw; obtain ⟨h0, h1⟩ := HK0.out _ hSw; go_simp <;> with_reducible rfl)
            try simp only [pqZ]
            refine tkZ (i := 3) (oi := ⟨some 20, _, _, _, _, _⟩) (v := ?_) rfl (by kernel_rfl) (fun _ _ _ h => h) (Or.inl ⟨by rfl, ?_⟩) hHeld ?_
            rotate_left
            · (intro w hSw; obtain ⟨g0, g1⟩ := HK1.out _ hSw; obtain ⟨h0, h1⟩ := HK0.out _ hSw; go_simp <;> with_reducible rfl)
            try simp only [pqZ]
            refine tkZ (i := 4) (oi := ⟨some 21, _, _, _, _, _⟩) (v := ?_) rfl (by kernel_rfl) (fun _ _ _ h => h) (Or.inl ⟨by rfl, ?_⟩) hHeld ?_
            rotate_left
            · (intro w hSw; obtain ⟨g0, g1⟩ := HK1.out _ hSw; obtain ⟨h0, h1⟩ := HK0.out _ hSw; go_simp <;> with_reducible rfl)
            try simp only [pqZ]
            refine tkZ (i := 5) (oi := ⟨some 22, _, _, _, _, _⟩) (v := ?_) rfl (by kernel_rfl) (fun _ _ _ h => h) (Or.inl ⟨by rfl, ?_⟩) hHeld ?_
            rotate_left
            · (intro w hSw; obtain ⟨g0, g1⟩ := HK1.out _ hSw; obtain ⟨h0, h1⟩ := HK0.out _ hSw; go_simp <;> with_reducible rfl)
            try simp only [pqZ]
            refine tkZ (i := 6) (oi := ⟨some 23, _, _, _, _, _⟩) (v := ?_) rfl (by kernel_rfl) (fun _ _ _ h => h) (Or.inl ⟨by rfl, ?_⟩) hHeld ?_
            rotate_left
            · (intro w hSw; obtain ⟨g0, g1⟩ := HK1.out _ hSw; obtain ⟨h0, h1⟩ := HK0.out _ hSw; go_simp <;> with_reducible rfl)
            try simp only [pqZ]
            refine tkZ (i := 7) (oi := ⟨some 24, _, _, _, _, _⟩) (v := ?_) rfl (by kernel_rfl) (fun _ _ _ h => h) (Or.inl ⟨by rfl, ?_⟩) hHeld ?_
            rotate_left
            · (intro w hSw; obtain ⟨g0, g1⟩ := HK1.out _ hSw; obtain ⟨h0, h1⟩ := HK0.out _ hSw; go_simp <;> with_reducible rfl)
            try simp only [pqZ]
            refine tkZ (i := 8) (oi := ⟨some 25, _, _, _, _, _⟩) (v := ?_) rfl (by kernel_rfl) (fun _ _ _ h => h) (Or.inl ⟨by rfl, ?_⟩) hHeld ?_
            rotate_left
            · (intro w hSw; obtain ⟨g0, g1⟩ := HK1.out _ hSw; obtain ⟨h0, h1⟩ := HK0.out _ hSw; go_simp <;> with_reducible rfl)
            try simp only [pqZ]
            refine wpAnyH_done (by kernel_rfl) ?_ _
            have hB2 := hB.trans (hHeld.mono hsz)
            go_wp2_with fail
            go_roundw
            case rel => exact ⟨k + 1, by omega, by go_num, HN.out, hB2⟩
            case measure => simp [intOf]; omega
          · have HN : Hid (decide (l = m) = false) := Lib.hid (by have := HX.out; rw [if_neg (by simp [d1])] at this; exact this)
            clear HX
            go_wp2_with fail
            refine wp_region_held_drew (S := (fun V => Below wr.heap.size wr V)) (by kernel_rfl) (by exact (Below.refl _ _).drew) (fun hHeld => ?_)
            refine tkZ (i := 0) (oi := ⟨some 17, _, _, _, _, _⟩) (v := ?_) rfl (by kernel_rfl) (fun _ _ _ h => h) (Or.inl ⟨by rfl, ?_⟩) hHeld ?_
            rotate_left
            · (intro w hSw; obtain ⟨g0, g1⟩ := HK1.out _ hSw; obtain ⟨h0, h1⟩ := HK0.out _ hSw; go_simp <;> with_reducible rfl)
            try simp only [pqZ]
            refine tkZ (i := 1) (oi := ⟨some 18, _, _, _, _, _⟩) (v := ?_) rfl (by kernel_rfl) (fun _ _ _ h => h) (Or.inl ⟨by rfl, ?_⟩) hHeld ?_
            rotate_left
            · (intro w hSw; obtain ⟨g0, g1⟩ := HK1.out _ hSw; obtain ⟨h0, h1⟩ := HK0.out _ hSw; go_simp <;> with_reducible rfl)
            try simp only [pqZ]
            refine tkZ (i := 2) (oi := ⟨some 19, _, _, _, _, _⟩) (v := ?_) rfl (by kernel_rfl) (fun _ _ _ h => h) (Or.inl ⟨by rfl, ?_⟩) hHeld ?_
            rotate_left
            · (intro w hSw; obtain ⟨g0, g1⟩ := HK1.out _ hSw; obtain ⟨h0, h1⟩ := HK0.out _ hSw; go_simp <;> with_reducible rfl)
            try simp only [pqZ]
            refine tkZ (i := 3) (oi := ⟨some 20, _, _, _, _, _⟩) (v := ?_) rfl (by kernel_rfl) (fun _ _ _ h => h) (Or.inl ⟨by rfl, ?_⟩) hHeld ?_
            rotate_left
            · (intro w hSw; obtain ⟨g0, g1⟩ := HK1.out _ hSw; obtain ⟨h0, h1⟩ := HK0.out _ hSw; go_simp <;> with_reducible rfl)
            try simp only [pqZ]
            refine tkZ (i := 4) (oi := ⟨some 21, _, _, _, _, _⟩) (v := ?_) rfl (by kernel_rfl) (fun _ _ _ h => h) (Or.inl ⟨by rfl, ?_⟩) hHeld ?_
            rotate_left
            · (intro w hSw; obtain ⟨g0, g1⟩ := HK1.out _ hSw; obtain ⟨h0, h1⟩ := HK0.out _ hSw; go_simp <;> with_reducible rfl)
            try simp only [pqZ]
            refine tkZ (i := 5) (oi := ⟨some 22, _, _, _, _, _⟩) (v := ?_) rfl (by kernel_rfl) (fun _ _ _ h => h) (Or.inl ⟨by rfl, ?_⟩) hHeld ?_
            rotate_left
            · (intro w hSw; obtain ⟨g0, g1⟩ := HK1.out _ hSw; obtain ⟨h0, h1⟩ := HK0.out _ hSw; go_simp <;> with_reducible rfl)
            try simp only [pqZ]
            refine tkZ (i := 6) (oi := ⟨some 23, _, _, _, _, _⟩) (v := ?_) rfl (by kernel_rfl) (fun _ _ _ h => h) (Or.inl ⟨by rfl, ?_⟩) hHeld ?_
            rotate_left
            · (intro w hSw; obtain ⟨g0, g1⟩ := HK1.out _ hSw; obtain ⟨h0, h1⟩ := HK0.out _ hSw; go_simp <;> with_reducible rfl)
            try simp only [pqZ]
            refine tkZ (i := 7) (oi := ⟨some 24, _, _, _, _, _⟩) (v := ?_) rfl (by kernel_rfl) (fun _ _ _ h => h) (Or.inl ⟨by rfl, ?_⟩) hHeld ?_
            rotate_left
            · (intro w hSw; obtain ⟨g0, g1⟩ := HK1.out _ hSw; obtain ⟨h0, h1⟩ := HK0.out _ hSw; go_simp <;> with_reducible rfl)
            try simp only [pqZ]
            refine tkZ (i := 8) (oi := ⟨some 25, _, _, _, _, _⟩) (v := ?_) rfl (by kernel_rfl) (fun _ _ _ h => h) (Or.inl ⟨by rfl, ?_⟩) hHeld ?_
            rotate_left
            · (intro w hSw; obtain ⟨g0, g1⟩ := HK1.out _ hSw; obtain ⟨h0, h1⟩ := HK0.out _ hSw; go_simp <;> with_reducible rfl)
            try simp only [pqZ]
            refine wpAnyH_done (by kernel_rfl) ?_ _
            have hB2 := hB.trans (hHeld.mono hsz)
            go_wp2_with fail
            go_ret
            exact ⟨retB HN.out.symm, hB2⟩
        · have HN : Hid (decide (l = m) = false) := Lib.hid (by have := HX.out; rw [if_neg (by simp [d0])] at this; exact this)
          clear HX
          go_wp2_with fail
          refine wp_region_held_drew (S := (fun V => Below wr.heap.size wr V)) (by kernel_rfl) (by exact (Below.refl _ _).drew) (fun hHeld => ?_)
          refine tkZ (i := 0) (oi := ⟨some 17, _, _, _, _, _⟩) (v := ?_) rfl (by kernel_rfl) (fun _ _ _ h => h) (Or.inl ⟨by rfl, ?_⟩) hHeld ?_
          rotate_left
          · (intro w hSw; obtain ⟨g0, g1⟩ := HK1.out _ hSw; obtain ⟨h0, h1⟩ := HK0.out _ hSw; go_simp <;> with_reducible rfl)
          try simp only [pqZ]
          refine tkZ (i := 1) (oi := ⟨some 18, _, _, _, _, _⟩) (v := ?_) rfl (by kernel_rfl) (fun _ _ _ h => h) (Or.inl ⟨by rfl, ?_⟩) hHeld ?_
          rotate_left
          · (intro w hSw; obtain ⟨g0, g1⟩ := HK1.out _ hSw; obtain ⟨h0, h1⟩ := HK0.out _ hSw; go_simp <;> with_reducible rfl)
          try simp only [pqZ]
          refine tkZ (i := 2) (oi := ⟨some 19, _, _, _, _, _⟩) (v := ?_) rfl (by kernel_rfl) (fun _ _ _ h => h) (Or.inl ⟨by rfl, ?_⟩) hHeld ?_
          rotate_left
          · (intro w hSw; obtain ⟨g0, g1⟩ := HK1.out _ hSw; obtain ⟨h0, h1⟩ := HK0.out _ hSw; go_simp <;> with_reducible rfl)
          try simp only [pqZ]
          refine tkZ (i := 3) (oi := ⟨some 20, _, _, _, _, _⟩) (v := ?_) rfl (by kernel_rfl) (fun _ _ _ h => h) (Or.inl ⟨by rfl, ?_⟩) hHeld ?_
          rotate_left
          · (intro w hSw; obtain ⟨g0, g1⟩ := HK1.out _ hSw; obtain ⟨h0, h1⟩ := HK0.out _ hSw; go_simp <;> with_reducible rfl)
          try simp only [pqZ]
          refine tkZ (i := 4) (oi := ⟨some 21, _, _, _, _, _⟩) (v := ?_) rfl (by kernel_rfl) (fun _ _ _ h => h) (Or.inl ⟨by rfl, ?_⟩) hHeld ?_
          rotate_left
          · (intro w hSw; obtain ⟨g0, g1⟩ := HK1.out _ hSw; obtain ⟨h0, h1⟩ := HK0.out _ hSw; go_simp <;> with_reducible rfl)
          try simp only [pqZ]
          refine tkZ (i := 5) (oi := ⟨some 22, _, _, _, _, _⟩) (v := ?_) rfl (by kernel_rfl) (fun _ _ _ h => h) (Or.inl ⟨by rfl, ?_⟩) hHeld ?_
          rotate_left
          · (intro w hSw; obtain ⟨g0, g1⟩ := HK1.out _ hSw; obtain ⟨h0, h1⟩ := HK0.out _ hSw; go_simp <;> with_reducible rfl)
          try simp only [pqZ]
          refine tkZ (i := 6) (oi := ⟨some 23, _, _, _, _, _⟩) (v := ?_) rfl (by kernel_rfl) (fun _ _ _ h => h) (Or.inl ⟨by rfl, ?_⟩) hHeld ?_
          rotate_left
          · (intro w hSw; obtain ⟨g0, g1⟩ := HK1.out _ hSw; obtain ⟨h0, h1⟩ := HK0.out _ hSw; go_simp <;> with_reducible rfl)
          try simp only [pqZ]
          refine tkZ (i := 7) (oi := ⟨some 24, _, _, _, _, _⟩) (v := ?_) rfl (by kernel_rfl) (fun _ _ _ h => h) (Or.inl ⟨by rfl, ?_⟩) hHeld ?_
          rotate_left
          · (intro w hSw; obtain ⟨g0, g1⟩ := HK1.out _ hSw; obtain ⟨h0, h1⟩ := HK0.out _ hSw; go_simp <;> with_reducible rfl)
          try simp only [pqZ]
          refine tkZ (i := 8) (oi := ⟨some 25, _, _, _, _, _⟩) (v := ?_) rfl (by kernel_rfl) (fun _ _ _ h => h) (Or.inl ⟨by rfl, ?_⟩) hHeld ?_
          rotate_left
          · (intro w hSw; obtain ⟨g0, g1⟩ := HK1.out _ hSw; obtain ⟨h0, h1⟩ := HK0.out _ hSw; go_simp <;> with_reducible rfl)
          try simp only [pqZ]
          refine wpAnyH_done (by kernel_rfl) ?_ _
          have hB2 := hB.trans (hHeld.mono hsz)
          go_wp2_with fail
          go_ret
          exact ⟨retB HN.out.symm, hB2⟩
      · have HE := Lib.hid (show decide (l = m) = true from decide_eq_true (list_eq_ofG HLM.out fun j h1 h2 => hno j h1 h2 (by omega)))
        clear hno
        go_wp2_with fail
        go_ret
        exact ⟨retB HE.out.symm, hB⟩
  · have HE := Lib.hid (show decide (l = m) = false from decide_eq_false fun e => hlen (by rw [e]))
    have hlen2 : ¬ ((l.length : Int) = (m.length : Int)) := by omega
    have hlen3 : ((l.length : Int) != (m.length : Int)) = true := by simpa using hlen2
    clear hlen
    go_enter Tryz.func21, Tryz.ntmps21
    go_wp2_with fail
    go_ret
    exact ⟨retB HE.out.symm, Below.refl _ _⟩
theorem rvsame_any_self (A A2 : Option Addr) (cap cap2 : Nat) (l : List Lg) (w : World) (hl : l.length ≤ 1000000) (hs : Sl w A (rc Lg.cells l)) (hs2 : Sl w A2 (rc Lg.cells l)) :
    Calls Tryz.prog 21 #[.slice A l.length cap, .slice A2 l.length cap2] w fun e w' => e = .returned (.bool true) ∧ Below w.heap.size w w' :=
  (rvsame_any A A2 cap cap2 l l w hl hs hs2).mono fun _ _ ⟨he, hw⟩ => ⟨by rw [he, decide_eq_true rfl], hw⟩
end Go.Proofs.YtahdmomadbbhoaaGreat
end
