/-
  Rows of Gr in memory, and the library's and the table's functions at them. Written by program (gen_table.py).
-/
import Derived.Test.YtpnaihnmmnjacaaRow
import Derived.Lib.SliceRun
import Derived.Deep.RegionLaw
namespace Go.Proofs.Ytpnaihnmmnjacaa
open Go.ChangeShapes Go.WideShapes Go.ChangeAt Go.RowKit
set_option linter.unusedVariables false
set_option linter.unusedSimpArgs false

structure Gr where
  (id : Int) (ac : Int) (cl : Int) (ins : Int) (pr : Int) (left : Int)
deriving DecidableEq

def Gr.cells (g : Gr) : List Value := [.int .i64 g.id, .int .i64 g.ac, .int .i64 g.cl, .int .i64 g.ins, .int .i64 g.pr, .int .i64 g.left]
def Gr.val (g : Gr) : Value := .agg #[.int .i64 g.id, .int .i64 g.ac, .int .i64 g.cl, .int .i64 g.ins, .int .i64 g.pr, .int .i64 g.left]
def Gr.zero : Gr := ⟨0, 0, 0, 0, 0, 0⟩
theorem Gr.len (g : Gr) : g.cells.length = 6 := rfl
theorem Gr.one (g : Gr) : ∀ u ∈ g.cells, u.oneCell' = true := by
  intro u hu
  simp only [Gr.cells, List.mem_cons, List.not_mem_nil, or_false] at hu
  rcases hu with h | h | h | h | h | h <;> subst h <;> rfl
def Gr.at (g : Gr) (w : World) (b o : Nat) : Prop :=
  w.cell? ⟨b, o, none⟩ = some (.int .i64 g.id) ∧ w.cell? ⟨b, o + 1, none⟩ = some (.int .i64 g.ac) ∧ w.cell? ⟨b, o + 2, none⟩ = some (.int .i64 g.cl) ∧ w.cell? ⟨b, o + 3, none⟩ = some (.int .i64 g.ins) ∧ w.cell? ⟨b, o + 4, none⟩ = some (.int .i64 g.pr) ∧ w.cell? ⟨b, o + 5, none⟩ = some (.int .i64 g.left)
theorem Gr.at_of {w : World} {b o : Nat} {g : Gr} (h : ∀ j u, g.cells[j]? = some u → w.cell? ⟨b, o + j, none⟩ = some u) : g.at w b o :=
  ⟨h 0 _ rfl, h 1 _ rfl, h 2 _ rfl, h 3 _ rfl, h 4 _ rfl, h 5 _ rfl⟩
theorem Gr.at_keep {w w' : World} {b o : Nat} {g : Gr} (h : g.at w b o) (k : ∀ i, w'.cell? ⟨b, i, none⟩ = w.cell? ⟨b, i, none⟩) : g.at w' b o := by
  unfold Gr.at at *
  simp only [k]
  exact h
theorem Sl.gr {w : World} {A : Option Addr} {l : List Gr} (h : Sl w A (rc Gr.cells l)) {k : Nat} (hk : k < l.length) : ∃ b o, A = some ⟨b, o, none⟩ ∧ b < w.heap.size ∧ l[k].at w b (o + k * 6) := by
  obtain ⟨b, o, hA, hb, hc⟩ := Sl.elem (m := 6) Gr.len (by decide) h hk
  exact ⟨b, o, hA, hb, Gr.at_of hc⟩
theorem EGr : Elem Try.prog 100 102 6 48 := Elem.mk' (z := .agg #[.int .i64 0, .int .i64 0, .int .i64 0, .int .i64 0, .int .i64 0, .int .i64 0]) (by kernel_rfl) (by kernel_rfl) (by decide) (by decide)

/-- a function that tells of one element, in every world that agrees with w below B -/
def Gr.Tells (F : Nat) (caps : Array Value) (p : Gr → Bool) (B : Nat) (w : World) : Prop :=
  ∀ (g : Gr) (W : World), Below B w W → Calls Try.prog F (#[g.val] ++ caps) W fun e w' => e = .returned (.bool (p g)) ∧ Below W.heap.size W w'
theorem Gr.Tells.below {F : Nat} {caps : Array Value} {p : Gr → Bool} {B : Nat} {w w1 : World} (h : Gr.Tells F caps p B w) (hb : Below B w w1) {C : Nat} (hC : B ≤ C) : Gr.Tells F caps p C w1 :=
  fun g W hW => h g W (hb.trans (hW.mono hC))

set_option maxHeartbeats 1000000 in
set_option maxRecDepth 100000 in
theorem index_gr (A : Option Addr) (cap : Nat) (l : List Gr) (F : Nat) (caps : Array Value) (p : Gr → Bool) (w : World) (hl : l.length ≤ 1000000) (hs : Sl w A (rc Gr.cells l)) (hF : Ent Try.prog F) (hp : Gr.Tells F caps p w.heap.size w) :
    Calls Try.prog 130 #[.slice A l.length cap, .func (.func F) #[] caps] w fun e w' => e = .returned (.int .i64 (atL p l)) ∧ Below w.heap.size w w' := by
  go_enter Try.func130, Try.ntmps130
  go_wp2
  go_loopw [8] (fun i wr => ∃ k : Nat, k ≤ l.length ∧ i = .int .i64 k ∧ (∀ j, (hj : j < l.length) → j < k → p l[j] = false) ∧ Below w.heap.size w wr) (fun i _ => l.length - (intOf i).toNat)
  case atStart => exact ⟨0, by omega, rfl, fun j hj h => absurd h (by omega), Below.refl _ _⟩
  case round =>
    obtain ⟨k, hk, rfl, hno, hB⟩ := hrel
    by_cases hlt2 : k < l.length
    · obtain ⟨b, o, rfl, hbw, hg⟩ := hs.gr hlt2
      have hg1 : l[k].at wr b (o + k * 6) := Gr.at_keep (w := w) hg fun i => hB.cell (p := ⟨b, i, none⟩) hbw
      obtain ⟨g0, g1, g2, g3, g4, g5⟩ := hg1
      have hbr : b < wr.heap.size := Nat.lt_of_lt_of_le hbw hB.size
      have step := hp l[k] wr hB
      cases hq : p l[k] with
      | true =>
        have HQ := Lib.hid hq
        go_wp2_with fail
        rw [hF, Oper.upon_enter]
        refine step.mono ?_
        rintro e w1 ⟨rfl, hb1⟩
        have hB1 := since_step hB hb1
        clear hb1
        rw [HQ.out]
        go_wp2
        go_ret
        exact ⟨retI (atL_some hlt2 (fun j hj => hno j (by omega) hj) HQ.out).symm, hB1⟩
      | false =>
        have HQ := Lib.hid hq
        go_wp2_with fail
        rw [hF, Oper.upon_enter]
        refine step.mono ?_
        rintro e w1 ⟨rfl, hb1⟩
        have hB1 := since_step hB hb1
        clear hb1
        rw [HQ.out]
        go_wp2
        go_roundw
        case rel =>
          refine ⟨k + 1, by omega, by go_num, fun j hj hjk => ?_, hB1⟩
          rcases Nat.lt_or_ge j k with h | h
          · exact hno j hj h
          · obtain rfl : j = k := by omega
            exact HQ.out
        case measure => simp [intOf]; omega
    · go_wp2
      go_ret
      exact ⟨retI (atL_none fun j hj => hno j hj (by omega)).symm, hB⟩

set_option maxHeartbeats 1000000 in
set_option maxRecDepth 100000 in
theorem clone_gr (A : Option Addr) (cap : Nat) (l : List Gr) (w : World) (hl : l.length ≤ 1000000) (hs : Sl w A (rc Gr.cells l)) :
    Calls Try.prog 129 #[.slice A l.length cap] w fun e w' => (∃ A' c', e = .returned (.slice A' l.length c') ∧ w'.ownsRow w.heap.size 102 6 (.slice A' l.length c') l.length (rc Gr.cells l)) ∧ Below w.heap.size w w' := by
  cases A with
  | none =>
    have hn : l = [] := by
      cases l with
      | nil => rfl
      | cons g m => obtain ⟨b, o, e, _⟩ := hs.gr (k := 0) (by simp); cases e
    subst hn
    have hnil := fun w : World => Go.Lib.run_eql_slice_nil (P := Try.prog) w 100 102 none 0 cap 0 0 EGr.und
    go_enter Try.func129, Try.ntmps129
    go_wp2_with fail
    go_ret
    exact ⟨⟨none, 0, rfl, own_nil _ _ _⟩, Below.refl _ _⟩
  | some ad =>
    have hnil := fun w : World => Go.Lib.run_eql_slice_nil (P := Try.prog) w 100 102 (some ad) l.length cap 0 0 EGr.und
    go_enter Try.func129, Try.ntmps129
    go_wp2_with (first
      | (at_builtin; refine wpList_app rfl (.tmp 5) (.tmp 6) rfl EGr rfl rfl (World.ownsRow_made (w := w) #[] 0 (Nat.le_refl _) (Nat.zero_le _) rfl) (rc_length Gr.len l) (hs.alloc _) (rc_one Gr.one l) (by unfold maxLen; omega) (by omega) (by simp) ?_; intro A2 c2 w2 hown2 hg2 hb2; simp only [Nat.zero_add, List.nil_append] at hown2)
      | fail)
    refine bodyPost_ret (results_tmp rfl _ _ _) rfl ⟨⟨A2, c2, by simp, by simpa using hown2⟩, ?_⟩
    exact Below.trans ((Below.refl _ _).alloc (Nat.le_refl _) _) hb2

theorem set_rc_gr (g : Gr) : ∀ (l : List Gr) (k : Nat), k < l.length → (((((((rc Gr.cells l).set (k * 6) (.int .i64 g.id)).set (k * 6 + 1) (.int .i64 g.ac)).set (k * 6 + 2) (.int .i64 g.cl)).set (k * 6 + 3) (.int .i64 g.ins)).set (k * 6 + 4) (.int .i64 g.pr)).set (k * 6 + 5) (.int .i64 g.left)) = rc Gr.cells (l.set k g) := by
  intro l
  induction l with
  | nil => intro k h; simp at h
  | cons a l ih =>
    intro k h
    cases k with
    | zero => simp [rc, Gr.cells]
    | succ k =>
      have := ih k (by simpa using h)
      have e0 : (k + 1) * 6 = k * 6 + 6 := by omega
      rw [e0]
      simp only [rc, List.map_cons, List.flatten_cons, List.set_cons_succ, Gr.cells, List.cons_append, List.nil_append] at this ⊢
      rw [← this]

theorem own_set_gr {w : World} {B b k n c : Nat} {l : List Gr} (h : w.ownsRow B 102 6 (.slice (some ⟨b, 0, none⟩) n c) n (rc Gr.cells l)) (hk : k < l.length) (g : Gr) :
    (((((((w.setCell ⟨b, k * 6, none⟩ (.int .i64 g.id)).setCell ⟨b, k * 6 + 1, none⟩ (.int .i64 g.ac)).setCell ⟨b, k * 6 + 2, none⟩ (.int .i64 g.cl)).setCell ⟨b, k * 6 + 3, none⟩ (.int .i64 g.ins)).setCell ⟨b, k * 6 + 4, none⟩ (.int .i64 g.pr)).setCell ⟨b, k * 6 + 5, none⟩ (.int .i64 g.left))).ownsRow B 102 6 (.slice (some ⟨b, 0, none⟩) n c) n (rc Gr.cells (l.set k g)) := by
  rw [← set_rc_gr g l k hk]
  have hl := rc_length Gr.len l
  have hkk : k * 6 + 6 ≤ l.length * 6 := by have := Nat.mul_le_mul_right 6 (show k + 1 ≤ l.length from hk); omega
  refine (own_set1 (own_set1 (own_set1 (own_set1 (own_set1 (own_set1 h ?_ _) ?_ _) ?_ _) ?_ _) ?_ _) ?_ _)
  all_goals first | omega | (simp only [List.length_set]; omega)

set_option maxHeartbeats 1000000 in
set_option maxRecDepth 100000 in
theorem set_gr (A : Option Addr) (cap : Nat) (l : List Gr) (k : Nat) (g : Gr) (w : World) (hl : l.length ≤ 1000000) (hk : k < l.length) (hs : Sl w A (rc Gr.cells l)) :
    Calls Try.prog 132 #[.slice A l.length cap, .int .i64 k, g.val] w fun e w' => (∃ A' c', e = .returned (.slice A' l.length c') ∧ w'.ownsRow w.heap.size 102 6 (.slice A' l.length c') l.length (rc Gr.cells (l.set k g))) ∧ Below w.heap.size w w' := by
  unfold Gr.val
  go_enter Try.func132, Try.ntmps132
  go_wp2_with fail
  refine (clone_gr A cap l _ hl (hs.alloc _)).mono ?_
  rintro e w1 ⟨⟨A1, c1, rfl, hown⟩, hb1⟩
  have Bv := (Bk.new w g.cells.toArray 102).below hb1
  have hB1 := since_step (since_alloc (Below.refl _ _) _) hb1
  obtain ⟨gb, rfl, h1, h2, h3⟩ := own_at hown (by omega)
  simp only [World.size_alloc] at h1 hown
  clear hb1
  obtain ⟨lb, cb⟩ := id Bv
  have q0 := cb 0
  have q1 := cb 1
  have q2 := cb 2
  have q3 := cb 3
  have q4 := cb 4
  have q5 := cb 5
  simp [Gr.cells] at q0 q1 q2 q3 q4 q5
  clear cb
  obtain ⟨b, o, e, hbw, hgat⟩ := (Sl.of_own hown).gr hk
  injection e with e
  injection e with e1 e2 e3
  subst e1; subst e2
  simp only [Nat.zero_add] at hgat
  obtain ⟨g0, g1, g2, g3, g4, g5⟩ := id hgat
  go_wp2_with fail
  refine bodyPost_ret (results_tmp rfl _ _ _) rfl ⟨⟨_, _, rfl, ?_⟩, ?_⟩
  · have hh := own_set_gr hown hk g
    rcases hh with ⟨hh1, hh2⟩
    refine ⟨hh1, ?_⟩
    rcases hh2 with ⟨hh2, _⟩ | ⟨g', cap', cur', e1, e2, e3⟩
    · cases hh2
    · exact .inr ⟨g', cap', cur', e1, by omega, e3⟩
  repeat' (first | with_reducible exact hB1 | with_reducible refine Below.setCell ?_ ?_ _)
  all_goals first | (simp; done) | (simp; omega)

theorem run_sizeOf_gr (w : World) : (Go.sizeOf 102).run Try.prog w = .ok 6 w := by
  obtain ⟨i, z, hi, hz, hsize, hby, hzs⟩ := EGr.info
  simp [Go.sizeOf, typeInfo, hi, hsize]
theorem info_size_gr : (Try.prog.info? 102).map (·.size) = some 6 := by kernel_rfl



end Go.Proofs.Ytpnaihnmmnjacaa
