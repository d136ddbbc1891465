/-
  Rows of Lg in memory, and the library's and the table's functions at them. Written by program (gen_table.py).
-/
import Derived.Test.YtfagpdnckmaomaaRow
import Derived.Lib.SliceRun
import Derived.Deep.RegionLaw
namespace Go.Proofs.Ytfagpdnckmaomaa
open Go.ChangeShapes Go.WideShapes Go.ChangeAt Go.RowKit
set_option linter.unusedVariables false
set_option linter.unusedSimpArgs false

structure Lg where
  (ins : Int) (qty : Int)
deriving DecidableEq

def Lg.cells (g : Lg) : List Value := [.int .i64 g.ins, .int .i64 g.qty]
def Lg.val (g : Lg) : Value := .agg #[.int .i64 g.ins, .int .i64 g.qty]
def Lg.zero : Lg := ⟨0, 0⟩
theorem Lg.len (g : Lg) : g.cells.length = 2 := rfl
theorem Lg.one (g : Lg) : ∀ u ∈ g.cells, u.oneCell' = true := by
  intro u hu
  simp only [Lg.cells, List.mem_cons, List.not_mem_nil, or_false] at hu
  rcases hu with h | h <;> subst h <;> rfl
def Lg.at (g : Lg) (w : World) (b o : Nat) : Prop :=
  w.cell? ⟨b, o, none⟩ = some (.int .i64 g.ins) ∧ w.cell? ⟨b, o + 1, none⟩ = some (.int .i64 g.qty)
theorem Lg.at_of {w : World} {b o : Nat} {g : Lg} (h : ∀ j u, g.cells[j]? = some u → w.cell? ⟨b, o + j, none⟩ = some u) : g.at w b o :=
  ⟨h 0 _ rfl, h 1 _ rfl⟩
theorem Lg.at_keep {w w' : World} {b o : Nat} {g : Lg} (h : g.at w b o) (k : ∀ i, w'.cell? ⟨b, i, none⟩ = w.cell? ⟨b, i, none⟩) : g.at w' b o := by
  unfold Lg.at at *
  simp only [k]
  exact h
theorem Sl.lg {w : World} {A : Option Addr} {l : List Lg} (h : Sl w A (rc Lg.cells l)) {k : Nat} (hk : k < l.length) : ∃ b o, A = some ⟨b, o, none⟩ ∧ b < w.heap.size ∧ l[k].at w b (o + k * 2) := by
  obtain ⟨b, o, hA, hb, hc⟩ := Sl.elem (m := 2) Lg.len (by decide) h hk
  exact ⟨b, o, hA, hb, Lg.at_of hc⟩
theorem ELg : Elem Try.prog 25 36 2 16 := Elem.mk' (z := .agg #[.int .i64 0, .int .i64 0]) (by kernel_rfl) (by kernel_rfl) (by decide) (by decide)

/-- a function that tells of one element, in every world that agrees with w below B -/
def Lg.Tells (F : Nat) (caps : Array Value) (p : Lg → Bool) (B : Nat) (w : World) : Prop :=
  ∀ (g : Lg) (W : World), Below B w W → Calls Try.prog F (#[g.val] ++ caps) W fun e w' => e = .returned (.bool (p g)) ∧ Below W.heap.size W w'
theorem Lg.Tells.below {F : Nat} {caps : Array Value} {p : Lg → Bool} {B : Nat} {w w1 : World} (h : Lg.Tells F caps p B w) (hb : Below B w w1) {C : Nat} (hC : B ≤ C) : Lg.Tells F caps p C w1 :=
  fun g W hW => h g W (hb.trans (hW.mono hC))

set_option maxHeartbeats 1000000 in
set_option maxRecDepth 100000 in
theorem index_lg (A : Option Addr) (cap : Nat) (l : List Lg) (F : Nat) (caps : Array Value) (p : Lg → Bool) (w : World) (hl : l.length ≤ 1000000) (hs : Sl w A (rc Lg.cells l)) (hF : Ent Try.prog F) (hp : Lg.Tells F caps p w.heap.size w) :
    Calls Try.prog 106 #[.slice A l.length cap, .func (.func F) #[] caps] w fun e w' => e = .returned (.int .i64 (atL p l)) ∧ Below w.heap.size w w' := by
  go_enter Try.func106, Try.ntmps106
  go_wp2
  go_loopw [8] (fun i wr => ∃ k : Nat, k ≤ l.length ∧ i = .int .i64 k ∧ (∀ j, (hj : j < l.length) → j < k → p l[j] = false) ∧ Below w.heap.size w wr) (fun i _ => l.length - (intOf i).toNat)
  case atStart => exact ⟨0, by omega, rfl, fun j hj h => absurd h (by omega), Below.refl _ _⟩
  case round =>
    obtain ⟨k, hk, rfl, hno, hB⟩ := hrel
    by_cases hlt2 : k < l.length
    · obtain ⟨b, o, rfl, hbw, hg⟩ := hs.lg hlt2
      have hg1 : l[k].at wr b (o + k * 2) := Lg.at_keep (w := w) hg fun i => hB.cell (p := ⟨b, i, none⟩) hbw
      obtain ⟨g0, g1⟩ := hg1
      have hbr : b < wr.heap.size := Nat.lt_of_lt_of_le hbw hB.size
      have step := hp l[k] wr hB
      cases hq : p l[k] with
      | true =>
        have HQ := Lib.hid hq
        go_wp2_with fail
        rw [hF, Oper.upon_enter]
        refine step.mono ?_
        rintro e w1 ⟨rfl, hb1⟩
        have hB1 := since_step hB hb1
        clear hb1
        rw [HQ.out]
        go_wp2
        go_ret
        exact ⟨retI (atL_some hlt2 (fun j hj => hno j (by omega) hj) HQ.out).symm, hB1⟩
      | false =>
        have HQ := Lib.hid hq
        go_wp2_with fail
        rw [hF, Oper.upon_enter]
        refine step.mono ?_
        rintro e w1 ⟨rfl, hb1⟩
        have hB1 := since_step hB hb1
        clear hb1
        rw [HQ.out]
        go_wp2
        go_roundw
        case rel =>
          refine ⟨k + 1, by omega, by go_num, fun j hj hjk => ?_, hB1⟩
          rcases Nat.lt_or_ge j k with h | h
          · exact hno j hj h
          · obtain rfl : j = k := by omega
            exact HQ.out
        case measure => simp [intOf]; omega
    · go_wp2
      go_ret
      exact ⟨retI (atL_none fun j hj => hno j hj (by omega)).symm, hB⟩


theorem set_rc_lg (g : Lg) : ∀ (l : List Lg) (k : Nat), k < l.length → (((rc Lg.cells l).set (k * 2) (.int .i64 g.ins)).set (k * 2 + 1) (.int .i64 g.qty)) = rc Lg.cells (l.set k g) := by
  intro l
  induction l with
  | nil => intro k h; simp at h
  | cons a l ih =>
    intro k h
    cases k with
    | zero => simp [rc, Lg.cells]
    | succ k =>
      have := ih k (by simpa using h)
      have e0 : (k + 1) * 2 = k * 2 + 2 := by omega
      rw [e0]
      simp only [rc, List.map_cons, List.flatten_cons, List.set_cons_succ, Lg.cells, List.cons_append, List.nil_append] at this ⊢
      rw [← this]

theorem own_set_lg {w : World} {B b k n c : Nat} {l : List Lg} (h : w.ownsRow B 36 2 (.slice (some ⟨b, 0, none⟩) n c) n (rc Lg.cells l)) (hk : k < l.length) (g : Lg) :
    (((w.setCell ⟨b, k * 2, none⟩ (.int .i64 g.ins)).setCell ⟨b, k * 2 + 1, none⟩ (.int .i64 g.qty))).ownsRow B 36 2 (.slice (some ⟨b, 0, none⟩) n c) n (rc Lg.cells (l.set k g)) := by
  rw [← set_rc_lg g l k hk]
  have hl := rc_length Lg.len l
  have hkk : k * 2 + 2 ≤ l.length * 2 := by have := Nat.mul_le_mul_right 2 (show k + 1 ≤ l.length from hk); omega
  refine (own_set1 (own_set1 h ?_ _) ?_ _)
  all_goals first | omega | (simp only [List.length_set]; omega)


theorem run_sizeOf_lg (w : World) : (Go.sizeOf 36).run Try.prog w = .ok 2 w := by
  obtain ⟨i, z, hi, hz, hsize, hby, hzs⟩ := ELg.info
  simp [Go.sizeOf, typeInfo, hi, hsize]
theorem info_size_lg : (Try.prog.info? 36).map (·.size) = some 2 := by kernel_rfl



end Go.Proofs.Ytfagpdnckmaomaa
