/-
  Rows of Nt in memory, and the library's and the table's functions at them. Written by program (gen_table.py).
-/
import Derived.Test.YtbjfdphhopembaaRow
import Derived.Lib.SliceRun
import Derived.Deep.RegionLaw
namespace Go.Proofs.Ytbjfdphhopembaa
open Go.ChangeShapes Go.WideShapes Go.ChangeAt Go.RowKit
set_option linter.unusedVariables false
set_option linter.unusedSimpArgs false

structure Nt where
  (n : Int)
deriving DecidableEq

def Nt.cells (g : Nt) : List Value := [.int .i64 g.n]
def Nt.val (g : Nt) : Value := .int .i64 g.n
def Nt.zero : Nt := ⟨0⟩
theorem Nt.len (g : Nt) : g.cells.length = 1 := rfl
theorem Nt.one (g : Nt) : ∀ u ∈ g.cells, u.oneCell' = true := by
  intro u hu
  simp only [Nt.cells, List.mem_cons, List.not_mem_nil, or_false] at hu
  subst hu; rfl
def Nt.at (g : Nt) (w : World) (b o : Nat) : Prop :=
  w.cell? ⟨b, o, none⟩ = some (.int .i64 g.n) ∧ True
theorem Nt.at_of {w : World} {b o : Nat} {g : Nt} (h : ∀ j u, g.cells[j]? = some u → w.cell? ⟨b, o + j, none⟩ = some u) : g.at w b o :=
  ⟨h 0 _ rfl, trivial⟩
theorem Nt.at_keep {w w' : World} {b o : Nat} {g : Nt} (h : g.at w b o) (k : ∀ i, w'.cell? ⟨b, i, none⟩ = w.cell? ⟨b, i, none⟩) : g.at w' b o := by
  unfold Nt.at at *
  simp only [k]
  exact h
theorem Sl.nt {w : World} {A : Option Addr} {l : List Nt} (h : Sl w A (rc Nt.cells l)) {k : Nat} (hk : k < l.length) : ∃ b o, A = some ⟨b, o, none⟩ ∧ b < w.heap.size ∧ l[k].at w b (o + k) := by
  obtain ⟨b, o, hA, hb, hc⟩ := Sl.elem (m := 1) Nt.len (by decide) h hk
  exact ⟨b, o, hA, hb, Nt.at_of (by simpa only [Nat.mul_one] using hc)⟩
theorem ENt : Elem Try.prog 23 3 1 8 := Elem.mk' (z := .int .i64 0) (by kernel_rfl) (by kernel_rfl) (by decide) (by decide)

/-- a function that tells of one element, in every world that agrees with w below B -/
def Nt.Tells (F : Nat) (caps : Array Value) (p : Nt → Bool) (B : Nat) (w : World) : Prop :=
  ∀ (g : Nt) (W : World), Below B w W → Calls Try.prog F (#[g.val] ++ caps) W fun e w' => e = .returned (.bool (p g)) ∧ Below W.heap.size W w'
theorem Nt.Tells.below {F : Nat} {caps : Array Value} {p : Nt → Bool} {B : Nat} {w w1 : World} (h : Nt.Tells F caps p B w) (hb : Below B w w1) {C : Nat} (hC : B ≤ C) : Nt.Tells F caps p C w1 :=
  fun g W hW => h g W (hb.trans (hW.mono hC))


set_option maxHeartbeats 1000000 in
set_option maxRecDepth 100000 in
theorem clone_nt (A : Option Addr) (cap : Nat) (l : List Nt) (w : World) (hl : l.length ≤ 1000000) (hs : Sl w A (rc Nt.cells l)) :
    Calls Try.prog 45 #[.slice A l.length cap] w fun e w' => (∃ A' c', e = .returned (.slice A' l.length c') ∧ w'.ownsRow w.heap.size 3 1 (.slice A' l.length c') l.length (rc Nt.cells l)) ∧ Below w.heap.size w w' := by
  cases A with
  | none =>
    have hn : l = [] := by
      cases l with
      | nil => rfl
      | cons g m => obtain ⟨b, o, e, _⟩ := hs.nt (k := 0) (by simp); cases e
    subst hn
    have hnil := fun w : World => Go.Lib.run_eql_slice_nil (P := Try.prog) w 23 3 none 0 cap 0 0 ENt.und
    go_enter Try.func45, Try.ntmps45
    go_wp2_with fail
    go_ret
    exact ⟨⟨none, 0, rfl, own_nil _ _ _⟩, Below.refl _ _⟩
  | some ad =>
    have hnil := fun w : World => Go.Lib.run_eql_slice_nil (P := Try.prog) w 23 3 (some ad) l.length cap 0 0 ENt.und
    go_enter Try.func45, Try.ntmps45
    go_wp2_with (first
      | (at_builtin; refine wpList_app rfl (.tmp 5) (.tmp 6) rfl ENt rfl rfl (World.ownsRow_made (w := w) #[] 0 (Nat.le_refl _) (Nat.zero_le _) rfl) (rc_length Nt.len l) (hs.alloc _) (rc_one Nt.one l) (by unfold maxLen; omega) (by omega) (by simp) ?_; intro A2 c2 w2 hown2 hg2 hb2; simp only [Nat.zero_add, List.nil_append] at hown2)
      | fail)
    refine bodyPost_ret (results_tmp rfl _ _ _) rfl ⟨⟨A2, c2, by simp, by simpa using hown2⟩, ?_⟩
    exact Below.trans ((Below.refl _ _).alloc (Nat.le_refl _) _) hb2

theorem set_rc_nt (g : Nt) : ∀ (l : List Nt) (k : Nat), k < l.length → ((rc Nt.cells l).set k (.int .i64 g.n)) = rc Nt.cells (l.set k g) := by
  intro l k h
  simp only [rc, Nt.cells]
  induction l generalizing k with
  | nil => simp at h
  | cons a l ih =>
    cases k with
    | zero => simp [Nt.cells]
    | succ k => simpa [Nt.cells] using ih k (by simpa using h)

theorem own_set_nt {w : World} {B b k n c : Nat} {l : List Nt} (h : w.ownsRow B 3 1 (.slice (some ⟨b, 0, none⟩) n c) n (rc Nt.cells l)) (hk : k < l.length) (g : Nt) :
    ((w.setCell ⟨b, k, none⟩ (.int .i64 g.n))).ownsRow B 3 1 (.slice (some ⟨b, 0, none⟩) n c) n (rc Nt.cells (l.set k g)) := by
  rw [← set_rc_nt g l k hk]
  have hl := rc_length Nt.len l
  have hkk : k * 1 + 1 ≤ l.length * 1 := by have := Nat.mul_le_mul_right 1 (show k + 1 ≤ l.length from hk); omega
  refine (own_set1 h ?_ _)
  all_goals first | omega | (simp only [List.length_set]; omega)


theorem run_sizeOf_nt (w : World) : (Go.sizeOf 3).run Try.prog w = .ok 1 w := by
  obtain ⟨i, z, hi, hz, hsize, hby, hzs⟩ := ENt.info
  simp [Go.sizeOf, typeInfo, hi, hsize]
theorem info_size_nt : (Try.prog.info? 3).map (·.size) = some 1 := by kernel_rfl



end Go.Proofs.Ytbjfdphhopembaa
