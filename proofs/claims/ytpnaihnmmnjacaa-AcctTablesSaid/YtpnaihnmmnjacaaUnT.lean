/-
  Rows of Un in memory, and the library's and the table's functions at them. Written by program (gen_table.py).
-/
import Derived.Test.YtpnaihnmmnjacaaRow
import Derived.Lib.SliceRun
import Derived.Deep.RegionLaw
namespace Go.Proofs.Ytpnaihnmmnjacaa
open Go.ChangeShapes Go.WideShapes Go.ChangeAt Go.RowKit
set_option linter.unusedVariables false
set_option linter.unusedSimpArgs false

structure Un where
  (ac : Int) (cl : Int)
deriving DecidableEq

def Un.cells (g : Un) : List Value := [.int .i64 g.ac, .int .i64 g.cl]
def Un.val (g : Un) : Value := .agg #[.int .i64 g.ac, .int .i64 g.cl]
def Un.zero : Un := ⟨0, 0⟩
theorem Un.len (g : Un) : g.cells.length = 2 := rfl
theorem Un.one (g : Un) : ∀ u ∈ g.cells, u.oneCell' = true := by
  intro u hu
  simp only [Un.cells, List.mem_cons, List.not_mem_nil, or_false] at hu
  rcases hu with h | h <;> subst h <;> rfl
def Un.at (g : Un) (w : World) (b o : Nat) : Prop :=
  w.cell? ⟨b, o, none⟩ = some (.int .i64 g.ac) ∧ w.cell? ⟨b, o + 1, none⟩ = some (.int .i64 g.cl)
theorem Un.at_of {w : World} {b o : Nat} {g : Un} (h : ∀ j u, g.cells[j]? = some u → w.cell? ⟨b, o + j, none⟩ = some u) : g.at w b o :=
  ⟨h 0 _ rfl, h 1 _ rfl⟩
theorem Un.at_keep {w w' : World} {b o : Nat} {g : Un} (h : g.at w b o) (k : ∀ i, w'.cell? ⟨b, i, none⟩ = w.cell? ⟨b, i, none⟩) : g.at w' b o := by
  unfold Un.at at *
  simp only [k]
  exact h
theorem Sl.un {w : World} {A : Option Addr} {l : List Un} (h : Sl w A (rc Un.cells l)) {k : Nat} (hk : k < l.length) : ∃ b o, A = some ⟨b, o, none⟩ ∧ b < w.heap.size ∧ l[k].at w b (o + k * 2) := by
  obtain ⟨b, o, hA, hb, hc⟩ := Sl.elem (m := 2) Un.len (by decide) h hk
  exact ⟨b, o, hA, hb, Un.at_of hc⟩
theorem EUn : Elem Try.prog 32 26 2 16 := Elem.mk' (z := .agg #[.int .i64 0, .int .i64 0]) (by kernel_rfl) (by kernel_rfl) (by decide) (by decide)

/-- a function that tells of one element, in every world that agrees with w below B -/
def Un.Tells (F : Nat) (caps : Array Value) (p : Un → Bool) (B : Nat) (w : World) : Prop :=
  ∀ (g : Un) (W : World), Below B w W → Calls Try.prog F (#[g.val] ++ caps) W fun e w' => e = .returned (.bool (p g)) ∧ Below W.heap.size W w'
theorem Un.Tells.below {F : Nat} {caps : Array Value} {p : Un → Bool} {B : Nat} {w w1 : World} (h : Un.Tells F caps p B w) (hb : Below B w w1) {C : Nat} (hC : B ≤ C) : Un.Tells F caps p C w1 :=
  fun g W hW => h g W (hb.trans (hW.mono hC))



theorem set_rc_un (g : Un) : ∀ (l : List Un) (k : Nat), k < l.length → (((rc Un.cells l).set (k * 2) (.int .i64 g.ac)).set (k * 2 + 1) (.int .i64 g.cl)) = rc Un.cells (l.set k g) := by
  intro l
  induction l with
  | nil => intro k h; simp at h
  | cons a l ih =>
    intro k h
    cases k with
    | zero => simp [rc, Un.cells]
    | succ k =>
      have := ih k (by simpa using h)
      have e0 : (k + 1) * 2 = k * 2 + 2 := by omega
      rw [e0]
      simp only [rc, List.map_cons, List.flatten_cons, List.set_cons_succ, Un.cells, List.cons_append, List.nil_append] at this ⊢
      rw [← this]

theorem own_set_un {w : World} {B b k n c : Nat} {l : List Un} (h : w.ownsRow B 26 2 (.slice (some ⟨b, 0, none⟩) n c) n (rc Un.cells l)) (hk : k < l.length) (g : Un) :
    (((w.setCell ⟨b, k * 2, none⟩ (.int .i64 g.ac)).setCell ⟨b, k * 2 + 1, none⟩ (.int .i64 g.cl))).ownsRow B 26 2 (.slice (some ⟨b, 0, none⟩) n c) n (rc Un.cells (l.set k g)) := by
  rw [← set_rc_un g l k hk]
  have hl := rc_length Un.len l
  have hkk : k * 2 + 2 ≤ l.length * 2 := by have := Nat.mul_le_mul_right 2 (show k + 1 ≤ l.length from hk); omega
  refine (own_set1 (own_set1 h ?_ _) ?_ _)
  all_goals first | omega | (simp only [List.length_set]; omega)


theorem run_sizeOf_un (w : World) : (Go.sizeOf 26).run Try.prog w = .ok 2 w := by
  obtain ⟨i, z, hi, hz, hsize, hby, hzs⟩ := EUn.info
  simp [Go.sizeOf, typeInfo, hi, hsize]
theorem info_size_un : (Try.prog.info? 26).map (·.size) = some 2 := by kernel_rfl



end Go.Proofs.Ytpnaihnmmnjacaa
