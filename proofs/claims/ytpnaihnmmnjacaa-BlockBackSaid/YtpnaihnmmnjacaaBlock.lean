/-
  Layer 22, first part: fills: within, check (laid by gen_block.py).
-/
import Derived.Test.YtpnaihnmmnjacaaFiT
import Derived.Test.YtpnaihnmmnjacaaRowM
import Derived.BigQuiet
namespace Go.Proofs.Ytpnaihnmmnjacaa
open Go.ChangeShapes Go.WideShapes Go.ChangeAt Go.RowKit
set_option linter.unusedVariables false
set_option linter.unusedSimpArgs false

/-- a box of a fill -/
structure Fi.Bx (w : World) (b : Nat) (g : Fi) : Prop where
  lt : b < w.heap.size
  at_ : g.at w b 0
theorem Fi.Bx.new (w : World) (g : Fi) : Fi.Bx (w.alloc (.cells g.cells.toArray 117)) w.heap.size g := by
  have h := heap_alloc_new w (.cells g.cells.toArray 117 (0, 0))
  refine ⟨by simp, Fi.at_of fun j u hu => ?_⟩
  rw [Nat.zero_add, cell_of_row _ _ j g.cells.toArray 117 (0, 0) h]
  simpa using hu
theorem Fi.Bx.below {w w' : World} {b : Nat} {g : Fi} (h : Fi.Bx w b g) (hb : Below w.heap.size w w') : Fi.Bx w' b g :=
  ⟨Nat.lt_of_lt_of_le h.lt hb.size, Fi.at_keep h.at_ fun i => hb.cell (p := ⟨b, i, none⟩) h.lt⟩
theorem Fi.Bx.got {w : World} {b : Nat} {g : Fi} (h : Fi.Bx w b g) : w.cell? ⟨b, 0, none⟩ = some (.int .i64 g.qty) ∧ w.cell? ⟨b, 1, none⟩ = some (.int .i64 g.pr) := by
  have := h.at_
  unfold Fi.at at this
  simpa only [Nat.zero_add] using this

def inQ (q : Int) : Bool := decide (-1099511627776 ≤ q) && decide (q ≤ 1099511627776)
def okF (f : Fi) : Bool := decide (0 ≤ f.pr) && decide (f.pr ≤ 2147483647) && !(f.qty == 0) && inQ f.qty
def okE (q0 : Int) (f : Fi) : Bool := okF f && (decide (0 < f.qty) == decide (0 < q0))
def okFs (l : List Fi) : Bool := decide (1 ≤ l.length) && decide (l.length ≤ 16) && l.all (okE (l.headD Fi.zero).qty)
theorem okFs_false {l : List Fi} {k : Nat} (h : k < l.length) (hb : okE (l.headD Fi.zero).qty l[k] = false) : okFs l = false := by
  unfold okFs
  have : l.all (okE (l.headD Fi.zero).qty) = false := by
    rw [← Bool.not_eq_true, List.all_eq_true]
    intro ha
    rw [ha _ (List.getElem_mem h)] at hb
    cases hb
  rw [this, Bool.and_false]
theorem okFs_true {l : List Fi} (h1 : 1 ≤ l.length) (h2 : l.length ≤ 16) (h : ∀ j, (hj : j < l.length) → okE (l.headD Fi.zero).qty l[j] = true) : okFs l = true := by
  unfold okFs
  have : l.all (okE (l.headD Fi.zero).qty) = true := by
    rw [List.all_eq_true]
    intro x hx
    obtain ⟨j, hj, rfl⟩ := List.getElem_of_mem hx
    exact h j hj
  rw [this]
  simp [h1, h2]

theorem bwithin22 (q : Int) (w : World) : Calls Try.prog 122 #[.int .i64 q] w fun e w' => e = .returned (.bool (inQ q)) ∧ w' = w := by
  unfold inQ
  by_cases h : -1099511627776 ≤ q
  · by_cases h2 : q ≤ 1099511627776
    · go_enter Try.func122, Try.ntmps122
      go_wp2
      go_ret
      exact ⟨by simp [h, h2], rfl⟩
    · go_enter Try.func122, Try.ntmps122
      go_wp2
      go_ret
      exact ⟨by simp [h, h2], rfl⟩
  · go_enter Try.func122, Try.ntmps122
    go_wp2
    go_ret
    exact ⟨by simp; omega, rfl⟩

set_option maxHeartbeats 8000000 in
set_option maxRecDepth 100000 in
theorem bcheck_any (A : Option Addr) (cap : Nat) (l : List Fi) (w : World) (hl : l.length ≤ 1000000) (hs : Sl w A (rc Fi.cells l)) :
    Calls Try.prog 121 #[.slice A l.length cap] w fun e w' => e = .returned (.int .i64 (if okFs l = true then 0 else 2)) ∧ Below w.heap.size w w' := by
  obtain ⟨RV, hRV⟩ : ∃ v : Value, v = .int .i64 (if okFs l = true then 0 else 2) := ⟨_, rfl⟩
  rw [← hRV]
  have HRV := Lib.hid hRV
  clear hRV
  by_cases h1 : l.length < 1
  · have HE : Hid (RV = .int .i64 2) := Lib.hid (by rw [HRV.out, if_neg]; unfold okFs; simp; omega)
    have h1i : (l.length : Int) < 1 := by omega
    go_enter Try.func121, Try.ntmps121
    go_wp2_with fail
    go_ret
    rw [HE.out]; exact ⟨rfl, Below.refl _ _⟩
  have h1i : ¬ (l.length : Int) < 1 := by omega
  by_cases h2 : 16 < l.length
  · have HE : Hid (RV = .int .i64 2) := Lib.hid (by rw [HRV.out, if_neg]; unfold okFs; simp; omega)
    have h2i : (16 : Int) < (l.length : Int) := by omega
    go_enter Try.func121, Try.ntmps121
    go_wp2_with fail
    go_ret
    rw [HE.out]; exact ⟨rfl, Below.refl _ _⟩
  have h2i : ¬ (16 : Int) < (l.length : Int) := by omega
  obtain ⟨q0, hq0⟩ : ∃ q, (l.headD Fi.zero).qty = q := ⟨_, rfl⟩
  have HQ0 := Lib.hid hq0
  have hz0 : (l[0]'(by omega)).qty = q0 := by rw [← hq0]; cases l with | nil => simp at h1 | cons a l => rfl
  clear hq0
  go_enter Try.func121, Try.ntmps121
  go_wp2_with fail
  go_loopw [15] (fun i wr => ∃ k : Nat, k ≤ l.length ∧ i = .int .i64 k ∧ (∀ j, (hj : j < l.length) → j < k → okE q0 l[j] = true) ∧ Below w.heap.size w wr) (fun i _ => l.length - (intOf i).toNat)
  case atStart => exact ⟨0, by omega, rfl, fun j hj h => absurd h (by omega), Below.refl _ _⟩
  case round =>
    obtain ⟨k, hk, rfl, hno, hB⟩ := hrel
    have h1i : ¬ (l.length : Int) < 1 := by omega
    by_cases hlt : k < l.length
    · obtain ⟨b, o, rfl, hbw, hg⟩ := hs.fi hlt
      obtain ⟨b', o', e, _, hg'⟩ := hs.fi (k := 0) (by omega)
      injection e with e
      injection e with e1 e2 e3
      subst e1; subst e2
      have hg1 : l[k].at wr b (o + k * 2) := Fi.at_keep (w := w) hg fun i => hB.cell (p := ⟨b, i, none⟩) hbw
      have hg2 : (l[0]'(by omega)).at wr b (o + 0 * 2) := Fi.at_keep (w := w) hg' fun i => hB.cell (p := ⟨b, i, none⟩) hbw
      have hbr : b < wr.heap.size := Nat.lt_of_lt_of_le hbw hB.size
      have hgz := hg2.1
      rw [hz0] at hgz
      have hlk : (k : Int) < (l.length : Int) := by omega
      have hl0 : (0 : Int) < (l.length : Int) := by omega
      have HBAD : Hid (okE q0 l[k] = false → RV = .int .i64 2) := Lib.hid (fun h => by rw [HRV.out, if_neg]; rw [okFs_false hlt (by rw [HQ0.out]; exact h)]; decide)
      have HGO : Hid (okE q0 l[k] = true → ∀ j, (hj : j < l.length) → j < k + 1 → okE q0 l[j] = true) := Lib.hid (fun h j hj hjk => by
        rcases Nat.lt_or_ge j k with h' | h'
        · exact hno j hj h'
        · obtain rfl : j = k := by omega
          exact h)
      obtain ⟨p0, p1⟩ := hg1
      clear hg hg' hg2 hz0 hno
      generalize l[k] = v at HBAD HGO p0 p1
      obtain ⟨q, p⟩ := v
      simp only [Nat.zero_mul, Nat.add_zero] at p0 p1 hgz
      have hB1 := since_alloc hB (.cells #[.int .i64 q, .int .i64 p] 117)
      have HW : Hid (∀ W, Calls Try.prog 122 #[.int .i64 q] W fun e w' => e = .returned (.bool (inQ q)) ∧ w' = W) := Lib.hid (fun W => bwithin22 q W)
      by_cases c1 : p < 0
      · have HE := Lib.hid (HBAD.out (by (simp [okE, okF, inQ]; omega)))
        clear HBAD HGO
        have e1 : decide (p < 0) = true := decide_eq_true (by omega)
        go_wp2_with fail
        go_quiet ((go_at_call 122; refine Calls.quiet_of_same (HW.out _)))
        go_wp2_with fail
        go_ret
        rw [HE.out]; exact ⟨rfl, below_drewN hB1 _⟩


      by_cases c2 : 2147483647 < p
      · have HE := Lib.hid (HBAD.out (by (simp [okE, okF, inQ]; omega)))
        clear HBAD HGO
        have e1 : decide (p < 0) = false := decide_eq_false (by omega)
        have e2 : decide (2147483647 < p) = true := decide_eq_true (by omega)
        go_wp2_with fail
        go_quiet ((go_at_call 122; refine Calls.quiet_of_same (HW.out _)))
        go_wp2_with fail
        go_ret
        rw [HE.out]; exact ⟨rfl, below_drewN hB1 _⟩


      by_cases c3 : q = 0
      · subst c3
        have HE := Lib.hid (HBAD.out (by simp [okE, okF, inQ]))
        clear HBAD HGO
        have e1 : decide (p < 0) = false := decide_eq_false (by omega)
        have e2 : decide (2147483647 < p) = false := decide_eq_false (by omega)
        have e3 : ((0 : Int) == 0) = true := rfl
        go_wp2_with fail
        go_quiet ((go_at_call 122; refine Calls.quiet_of_same (HW.out _)))
        go_wp2_with fail
        go_ret
        rw [HE.out]; exact ⟨rfl, below_drewN hB1 _⟩


      cases e5 : inQ q with
      | false =>
        rw [e5] at HW
        have HE := Lib.hid (HBAD.out (by simp [okE, okF, e5]))
        clear HBAD HGO
        have e1 : decide (p < 0) = false := decide_eq_false (by omega)
        have e2 : decide (2147483647 < p) = false := decide_eq_false (by omega)
        have e3 : (q == 0) = false := by simpa using c3
        go_wp2_with fail
        go_quiet ((go_at_call 122; refine Calls.quiet_of_same (HW.out _)))
        go_wp2_with fail
        go_ret
        rw [HE.out]; exact ⟨rfl, below_drewN hB1 _⟩
      | true =>
        rw [e5] at HW
        by_cases s1 : 0 < q
        · by_cases s2 : 0 < q0
          · have HE := Lib.hid (HGO.out (by (simp [okE, okF, e5, s1, s2]; omega)))
            clear HBAD HGO
            have e1 : decide (p < 0) = false := decide_eq_false (by omega)
            have e2 : decide (2147483647 < p) = false := decide_eq_false (by omega)
            have e3 : (q == 0) = false := by simpa using c3
            have e6 : decide (0 < q) = true := decide_eq_true (by omega)
            have e7 : decide (0 < q0) = true := decide_eq_true (by omega)
            go_wp2_with fail
            go_quiet ((go_at_call 122; refine Calls.quiet_of_same (HW.out _)))
            go_wp2_with fail
            go_roundw
            case rel => exact ⟨k + 1, by omega, by go_num, HE.out, below_drewN hB1 _⟩
            case measure => simp [intOf]; omega
          · have HE := Lib.hid (HBAD.out (by simp [okE, okF, e5, s1, s2]))
            clear HBAD HGO
            have e1 : decide (p < 0) = false := decide_eq_false (by omega)
            have e2 : decide (2147483647 < p) = false := decide_eq_false (by omega)
            have e3 : (q == 0) = false := by simpa using c3
            have e6 : decide (0 < q) = true := decide_eq_true (by omega)
            have e7 : decide (0 < q0) = false := decide_eq_false (by omega)
            go_wp2_with fail
            go_quiet ((go_at_call 122; refine Calls.quiet_of_same (HW.out _)))
            go_wp2_with fail
            go_ret
            rw [HE.out]; exact ⟨rfl, below_drewN hB1 _⟩
        · by_cases s2 : 0 < q0
          · have HE := Lib.hid (HBAD.out (by simp [okE, okF, e5, s1, s2]))
            clear HBAD HGO
            have e1 : decide (p < 0) = false := decide_eq_false (by omega)
            have e2 : decide (2147483647 < p) = false := decide_eq_false (by omega)
            have e3 : (q == 0) = false := by simpa using c3
            have e6 : decide (0 < q) = false := decide_eq_false (by omega)
            have e7 : decide (0 < q0) = true := decide_eq_true (by omega)
            go_wp2_with fail
            go_quiet ((go_at_call 122; refine Calls.quiet_of_same (HW.out _)))
            go_wp2_with fail
            go_ret
            rw [HE.out]; exact ⟨rfl, below_drewN hB1 _⟩
          · have HE := Lib.hid (HGO.out (by (simp [okE, okF, e5, s1, s2]; omega)))
            clear HBAD HGO
            have e1 : decide (p < 0) = false := decide_eq_false (by omega)
            have e2 : decide (2147483647 < p) = false := decide_eq_false (by omega)
            have e3 : (q == 0) = false := by simpa using c3
            have e6 : decide (0 < q) = false := decide_eq_false (by omega)
            have e7 : decide (0 < q0) = false := decide_eq_false (by omega)
            go_wp2_with fail
            go_quiet ((go_at_call 122; refine Calls.quiet_of_same (HW.out _)))
            go_wp2_with fail
            go_roundw
            case rel => exact ⟨k + 1, by omega, by go_num, HE.out, below_drewN hB1 _⟩
            case measure => simp [intOf]; omega
    · obtain rfl : k = l.length := by omega
      have HE : Hid (RV = .int .i64 0) := Lib.hid (by rw [HRV.out, if_pos]; exact okFs_true (by omega) (by omega) (fun j hj => by rw [HQ0.out]; exact hno j hj hj))
      clear hno
      go_wp2_with fail
      go_ret
      rw [HE.out]; exact ⟨rfl, hB⟩
end Go.Proofs.Ytpnaihnmmnjacaa
