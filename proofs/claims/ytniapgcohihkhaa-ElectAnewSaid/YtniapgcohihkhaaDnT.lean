/-
  Rows of Dn in memory, and the library's and the table's functions at them. Written by program (gen_table.py).
-/
import Derived.Test.YtniapgcohihkhaaRow
import Derived.Lib.SliceRun
import Derived.Deep.RegionLaw
namespace Go.Proofs.Ytniapgcohihkhaa
open Go.ChangeShapes Go.WideShapes Go.ChangeAt Go.RowKit
set_option linter.unusedVariables false
set_option linter.unusedSimpArgs false

structure Dn where
  (kd : Int) (fu : Int) (fv : Int) (tu : Int) (tv : Int)
deriving DecidableEq

def Dn.cells (g : Dn) : List Value := [.int .i64 g.kd, .int .i64 g.fu, .int .i64 g.fv, .int .i64 g.tu, .int .i64 g.tv]
def Dn.val (g : Dn) : Value := .agg #[.int .i64 g.kd, .int .i64 g.fu, .int .i64 g.fv, .int .i64 g.tu, .int .i64 g.tv]
def Dn.zero : Dn := ⟨0, 0, 0, 0, 0⟩
theorem Dn.len (g : Dn) : g.cells.length = 5 := rfl
theorem Dn.one (g : Dn) : ∀ u ∈ g.cells, u.oneCell' = true := by
  intro u hu
  simp only [Dn.cells, List.mem_cons, List.not_mem_nil, or_false] at hu
  rcases hu with h | h | h | h | h <;> subst h <;> rfl
def Dn.at (g : Dn) (w : World) (b o : Nat) : Prop :=
  w.cell? ⟨b, o, none⟩ = some (.int .i64 g.kd) ∧ w.cell? ⟨b, o + 1, none⟩ = some (.int .i64 g.fu) ∧ w.cell? ⟨b, o + 2, none⟩ = some (.int .i64 g.fv) ∧ w.cell? ⟨b, o + 3, none⟩ = some (.int .i64 g.tu) ∧ w.cell? ⟨b, o + 4, none⟩ = some (.int .i64 g.tv)
theorem Dn.at_of {w : World} {b o : Nat} {g : Dn} (h : ∀ j u, g.cells[j]? = some u → w.cell? ⟨b, o + j, none⟩ = some u) : g.at w b o :=
  ⟨h 0 _ rfl, h 1 _ rfl, h 2 _ rfl, h 3 _ rfl, h 4 _ rfl⟩
theorem Dn.at_keep {w w' : World} {b o : Nat} {g : Dn} (h : g.at w b o) (k : ∀ i, w'.cell? ⟨b, i, none⟩ = w.cell? ⟨b, i, none⟩) : g.at w' b o := by
  unfold Dn.at at *
  simp only [k]
  exact h
theorem Sl.dn {w : World} {A : Option Addr} {l : List Dn} (h : Sl w A (rc Dn.cells l)) {k : Nat} (hk : k < l.length) : ∃ b o, A = some ⟨b, o, none⟩ ∧ b < w.heap.size ∧ l[k].at w b (o + k * 5) := by
  obtain ⟨b, o, hA, hb, hc⟩ := Sl.elem (m := 5) Dn.len (by decide) h hk
  exact ⟨b, o, hA, hb, Dn.at_of hc⟩
theorem EDn : Elem Try.prog 62 64 5 40 := Elem.mk' (z := .agg #[.int .i64 0, .int .i64 0, .int .i64 0, .int .i64 0, .int .i64 0]) (by kernel_rfl) (by kernel_rfl) (by decide) (by decide)

/-- a function that tells of one element, in every world that agrees with w below B -/
def Dn.Tells (F : Nat) (caps : Array Value) (p : Dn → Bool) (B : Nat) (w : World) : Prop :=
  ∀ (g : Dn) (W : World), Below B w W → Calls Try.prog F (#[g.val] ++ caps) W fun e w' => e = .returned (.bool (p g)) ∧ Below W.heap.size W w'
theorem Dn.Tells.below {F : Nat} {caps : Array Value} {p : Dn → Bool} {B : Nat} {w w1 : World} (h : Dn.Tells F caps p B w) (hb : Below B w w1) {C : Nat} (hC : B ≤ C) : Dn.Tells F caps p C w1 :=
  fun g W hW => h g W (hb.trans (hW.mono hC))



theorem set_rc_dn (g : Dn) : ∀ (l : List Dn) (k : Nat), k < l.length → ((((((rc Dn.cells l).set (k * 5) (.int .i64 g.kd)).set (k * 5 + 1) (.int .i64 g.fu)).set (k * 5 + 2) (.int .i64 g.fv)).set (k * 5 + 3) (.int .i64 g.tu)).set (k * 5 + 4) (.int .i64 g.tv)) = rc Dn.cells (l.set k g) := by
  intro l
  induction l with
  | nil => intro k h; simp at h
  | cons a l ih =>
    intro k h
    cases k with
    | zero => simp [rc, Dn.cells]
    | succ k =>
      have := ih k (by simpa using h)
      have e0 : (k + 1) * 5 = k * 5 + 5 := by omega
      rw [e0]
      simp only [rc, List.map_cons, List.flatten_cons, List.set_cons_succ, Dn.cells, List.cons_append, List.nil_append] at this ⊢
      rw [← this]

theorem own_set_dn {w : World} {B b k n c : Nat} {l : List Dn} (h : w.ownsRow B 64 5 (.slice (some ⟨b, 0, none⟩) n c) n (rc Dn.cells l)) (hk : k < l.length) (g : Dn) :
    ((((((w.setCell ⟨b, k * 5, none⟩ (.int .i64 g.kd)).setCell ⟨b, k * 5 + 1, none⟩ (.int .i64 g.fu)).setCell ⟨b, k * 5 + 2, none⟩ (.int .i64 g.fv)).setCell ⟨b, k * 5 + 3, none⟩ (.int .i64 g.tu)).setCell ⟨b, k * 5 + 4, none⟩ (.int .i64 g.tv))).ownsRow B 64 5 (.slice (some ⟨b, 0, none⟩) n c) n (rc Dn.cells (l.set k g)) := by
  rw [← set_rc_dn g l k hk]
  have hl := rc_length Dn.len l
  have hkk : k * 5 + 5 ≤ l.length * 5 := by have := Nat.mul_le_mul_right 5 (show k + 1 ≤ l.length from hk); omega
  refine (own_set1 (own_set1 (own_set1 (own_set1 (own_set1 h ?_ _) ?_ _) ?_ _) ?_ _) ?_ _)
  all_goals first | omega | (simp only [List.length_set]; omega)


theorem run_sizeOf_dn (w : World) : (Go.sizeOf 64).run Try.prog w = .ok 5 w := by
  obtain ⟨i, z, hi, hz, hsize, hby, hzs⟩ := EDn.info
  simp [Go.sizeOf, typeInfo, hi, hsize]
theorem info_size_dn : (Try.prog.info? 64).map (·.size) = some 5 := by kernel_rfl



end Go.Proofs.Ytniapgcohihkhaa
