import Derived.Test.YtahdmomadbbhoaaMk24
import Derived.Deep.DeepCutAuto
import Derived.Deep.RegionHeld3
import Derived.Test.YtahdmomadbbhoaaMk18
import Derived.Test.YtahdmomadbbhoaaMk25
import Derived.Test.YtahdmomadbbhoaaMk23
import Derived.Test.YtahdmomadbbhoaaMk22
import Derived.Deep.RegionLaw
import Derived.Lib.SliceRun
import Derived.Test.YtahdmomadbbhoaaMk02
import Derived.Test.YtahdmomadbbhoaaMk04
import Derived.BigQuiet
import Derived.Test.YtahdmomadbbhoaaMk16
import Derived.Test.YtahdmomadbbhoaaMk17
section
namespace Go.Proofs.Ytahdmomadbbhoaa
open Go.ChangeShapes Go.WideShapes Go.ChangeAt Go.RowKit
set_option linter.unusedVariables false
set_option linter.unusedSimpArgs false

theorem abs_mul_le {a b A B : Int} (ha : -A ≤ a ∧ a ≤ A) (hb : -B ≤ b ∧ b ≤ B) : -(A * B) ≤ a * b ∧ a * b ≤ A * B := by
  have h1 : (a.natAbs : Int) ≤ A := by omega
  have h2 : (b.natAbs : Int) ≤ B := by omega
  have h3 : ((a * b).natAbs : Int) ≤ A * B := by
    rw [Int.natAbs_mul, Int.natCast_mul]
    exact Int.mul_le_mul h1 h2 (by omega) (by omega)
  omega
theorem move_in {q m t : Int} (hq : In64 q) (hm : -2147483647 ≤ m ∧ m ≤ 2147483647) (ht : 1 ≤ t ∧ t ≤ 65536) : In64 m ∧ In64 t ∧ In128 (q * m) ∧ In128 (q * m * t) := by
  unfold In64 at hq
  have h1 := abs_mul_le (A := 9223372036854775808) (B := 2147483647) (a := q) (b := m) (by omega) (by omega)
  have h2 := abs_mul_le (A := 9223372036854775808 * 2147483647) (B := 65536) (a := q * m) (b := t) (by omega) (by omega)
  unfold In64 In128
  generalize q * m * t = z at *
  generalize q * m = y at *
  omega
def gainZ (i : Ins) (q a b : Int) : Int := q * (b - a) * i.mult
theorem ok_mult {i : Ins} (h : okB i = true) : 1 ≤ i.mult ∧ i.mult ≤ 65536 := by
  unfold okB headB at h
  simp only [Bool.and_eq_true, decide_eq_true_eq] at h
  omega
theorem pr_move {a b : Int} (ha : prB a = true) (hb : prB b = true) : -2147483647 ≤ b - a ∧ b - a ≤ 2147483647 ∧ In64 (b - a) := by
  simp only [prB, Bool.and_eq_true, decide_eq_true_eq] at ha hb
  unfold In64
  omega
end Go.Proofs.Ytahdmomadbbhoaa
end
section
namespace Go.Proofs.Ytahdmomadbbhoaa
open Go.ChangeShapes Go.WideShapes Go.ChangeAt Go.RowKit
set_option linter.unusedVariables false
set_option linter.unusedSimpArgs false

def missI (is : List Ins) (M : List Lg) : Bool := M.any fun x => (fndI is x.ins).isNone
end Go.Proofs.Ytahdmomadbbhoaa
end
section
namespace Go.Proofs.Ytahdmomadbbhoaa
open Go.ChangeShapes Go.WideShapes Go.ChangeAt Go.RowKit
set_option linter.unusedVariables false
set_option linter.unusedSimpArgs false

def sumAt (h : Lg → Int) : Int → List Int → Int
  | _, [] => 0
  | i, q :: r => h ⟨i, q⟩ + sumAt h (i + 1) r
theorem sum_legsF (h : Lg → Int) (h0 : ∀ t, h ⟨t, 0⟩ = 0) : ∀ (i : Int) (L : List Int), ((legsF i L).map h).sum = sumAt h i L
  | _, [] => rfl
  | i, q :: r => by
    have ih := sum_legsF h h0 (i + 1) r
    rw [legsF, sumAt, ← ih]
    by_cases hq : q = 0
    · rw [if_pos hq, hq, h0]; simp
    · rw [if_neg hq]; simp
theorem sumAt_add (h : Lg → Int) (ha : ∀ t p q, h ⟨t, p + q⟩ = h ⟨t, p⟩ + h ⟨t, q⟩) (f g : Nat → Int) : ∀ (R : List Nat) (i : Int), sumAt h i (R.map fun j => f j + g j) = sumAt h i (R.map f) + sumAt h i (R.map g)
  | [], _ => by simp [sumAt]
  | j :: R, i => by
    simp only [List.map_cons, sumAt]
    rw [sumAt_add h ha f g R (i + 1), ha]
    omega
end Go.Proofs.Ytahdmomadbbhoaa
end
section
namespace Go.Proofs.Ytahdmomadbbhoaa
open Go.ChangeShapes Go.WideShapes Go.ChangeAt Go.RowKit
set_option linter.unusedVariables false
set_option linter.unusedSimpArgs false

theorem sums_consP (b : Pc) (r : List Pc) (t : Int) : (sumsH (b :: r) t).sum = getG b.L t + (sumsH r t).sum := by simp [sumsH]
def balP (cs : List Pc) : Bool := decide (∀ j ∈ List.range 8, (sumsH cs ((j : Int) + 1)).sum = 0)
theorem balP_no {cs : List Pc} {k : Nat} (h1 : 1 ≤ k) (h8 : k ≤ 8) (h : (sumsH cs (k : Int)).sum ≠ 0) : balP cs = false := by
  unfold balP
  rw [decide_eq_false_iff_not]
  intro hall
  have := hall (k - 1) (List.mem_range.2 (by omega))
  rw [show (((k - 1 : Nat) : Int) + 1) = (k : Int) by omega] at this
  exact h this
theorem balP_yes {cs : List Pc} (h : ∀ j : Nat, 1 ≤ j → j ≤ 8 → (sumsH cs (j : Int)).sum = 0) : balP cs = true := by
  unfold balP
  rw [decide_eq_true_iff]
  intro j hj
  have := List.mem_range.1 hj
  have := h (j + 1) (by omega) (by omega)
  simpa using this
end Go.Proofs.Ytahdmomadbbhoaa
end
section
namespace Go.Proofs.Ytahdmomadbbhoaa
open Go.ChangeShapes Go.WideShapes Go.ChangeAt Go.RowKit
set_option linter.unusedVariables false
set_option linter.unusedSimpArgs false

structure Lt where
  (ast : Int) (tag : Int) (qty : Int)
deriving DecidableEq
def Lt.cells (g : Lt) : List Value := [.int .i64 g.ast, .int .i64 g.tag, .int .i64 g.qty]
def Lt.val (g : Lt) : Value := .agg #[.int .i64 g.ast, .int .i64 g.tag, .int .i64 g.qty]
def Lt.zero : Lt := ⟨0, 0, 0⟩
theorem Lt.len (g : Lt) : g.cells.length = 3 := rfl
theorem Lt.one (g : Lt) : ∀ u ∈ g.cells, u.oneCell' = true := by
  intro u hu
  simp only [Lt.cells, List.mem_cons, List.not_mem_nil, or_false] at hu
  rcases hu with h | h | h <;> subst h <;> rfl
def Lt.at (g : Lt) (w : World) (b o : Nat) : Prop :=
  w.cell? ⟨b, o, none⟩ = some (.int .i64 g.ast) ∧ w.cell? ⟨b, o + 1, none⟩ = some (.int .i64 g.tag) ∧ w.cell? ⟨b, o + 2, none⟩ = some (.int .i64 g.qty)
theorem Lt.at_of {w : World} {b o : Nat} {g : Lt} (h : ∀ j u, g.cells[j]? = some u → w.cell? ⟨b, o + j, none⟩ = some u) : g.at w b o :=
  ⟨h 0 _ rfl, h 1 _ rfl, h 2 _ rfl⟩
theorem Lt.at_keep {w w' : World} {b o : Nat} {g : Lt} (h : g.at w b o) (k : ∀ i, w'.cell? ⟨b, i, none⟩ = w.cell? ⟨b, i, none⟩) : g.at w' b o := by
  unfold Lt.at at *
  simp only [k]
  exact h
theorem Sl.lt {w : World} {A : Option Addr} {l : List Lt} (h : Sl w A (rc Lt.cells l)) {k : Nat} (hk : k < l.length) : ∃ b o, A = some ⟨b, o, none⟩ ∧ b < w.heap.size ∧ l[k].at w b (o + k * 3) := by
  obtain ⟨b, o, hA, hb, hc⟩ := Sl.elem (m := 3) Lt.len (by decide) h hk
  exact ⟨b, o, hA, hb, Lt.at_of hc⟩
def Lt.Tells (F : Nat) (caps : Array Value) (p : Lt → Bool) (B : Nat) (w : World) : Prop :=
  ∀ (g : Lt) (W : World), Below B w W → Calls Try.prog F (#[g.val] ++ caps) W fun e w' => e = .returned (.bool (p g)) ∧ Below W.heap.size W w'
theorem Lt.Tells.below {F : Nat} {caps : Array Value} {p : Lt → Bool} {B : Nat} {w w1 : World} (h : Lt.Tells F caps p B w) (hb : Below B w w1) {C : Nat} (hC : B ≤ C) : Lt.Tells F caps p C w1 :=
  fun g W hW => h g W (hb.trans (hW.mono hC))
end Go.Proofs.Ytahdmomadbbhoaa
end
section
namespace Go.Proofs.Ytahdmomadbbhoaa
open Go.ChangeShapes Go.WideShapes Go.ChangeAt Go.RowKit
set_option linter.unusedVariables false
set_option linter.unusedSimpArgs false

def Lt.Tells2 (F : Nat) (caps : Array Value) (ah : Lt → Lt → Bool) (B : Nat) (w : World) : Prop :=
  ∀ (a b : Lt) (W : World), Below B w W → Calls Try.prog F (#[a.val, b.val] ++ caps) W fun e w' => e = .returned (.bool (ah a b)) ∧ Below W.heap.size W w'
theorem Lt.Tells2.below {F : Nat} {caps : Array Value} {ah : Lt → Lt → Bool} {B : Nat} {w w1 : World} (h : Lt.Tells2 F caps ah B w) (hb : Below B w w1) {C : Nat} (hC : B ≤ C) : Lt.Tells2 F caps ah C w1 :=
  fun a b W hW => h a b W (hb.trans (hW.mono hC))
end Go.Proofs.Ytahdmomadbbhoaa
end
section
namespace Go.Proofs.Ytahdmomadbbhoaa
open Go.ChangeShapes Go.WideShapes Go.ChangeAt Go.RowKit
set_option linter.unusedVariables false
set_option linter.unusedSimpArgs false

def ltL (x y : Lt) : Prop := x.ast < y.ast ∨ (x.ast = y.ast ∧ x.tag < y.tag)
instance (x y : Lt) : Decidable (ltL x y) := by unfold ltL; infer_instance
end Go.Proofs.Ytahdmomadbbhoaa
end
section
namespace Go.Proofs.Ytahdmomadbbhoaa
open Go.ChangeShapes Go.WideShapes Go.ChangeAt Go.RowKit
set_option linter.unusedVariables false
set_option linter.unusedSimpArgs false

theorem EWd : Elem Try.prog 102 62 2 16 := Elem.mk' (z := .agg #[.int .i64 0, .int .u64 0]) (by kernel_rfl) (by kernel_rfl) (by decide) (by decide)
theorem wcells_snoc (l : List Int) (x : Int) : wcells (l ++ [x]) = wcells l ++ [.int .i64 (hiN x), .int .u64 (loN x)] := by simp [wcells]
theorem wide_one (x : Int) : ∀ u ∈ [Value.int .i64 (hiN x), Value.int .u64 (loN x)], u.oneCell' = true := by
  intro u hu
  simp at hu
  rcases hu with rfl | rfl <;> rfl
theorem sum64_128 {l : List Int} (hl : l.length ≤ 1000000) (h : All64 l) : In128 l.sum := by
  have key : ∀ m : List Int, All64 m → -(m.length : Int) * 9223372036854775808 ≤ m.sum ∧ m.sum ≤ (m.length : Int) * 9223372036854775808 := by
    intro m
    induction m with
    | nil => intro _; simp
    | cons a m ih =>
      intro hm
      have h1 := ih (fun x hx => hm x (by simp [hx]))
      have h2 := hm a (by simp)
      unfold In64 at h2
      simp only [List.length_cons, List.sum_cons]
      omega
  have := key l h
  unfold In128
  omega
end Go.Proofs.Ytahdmomadbbhoaa
end
