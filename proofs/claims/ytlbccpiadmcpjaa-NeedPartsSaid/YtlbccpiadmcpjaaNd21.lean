import Derived.Deep.RegionLaw
import Derived.Lib.SliceRun
import Derived.Test.YtlbccpiadmcpjaaNd02
import Derived.Deep.DeepCutAuto
import Derived.Deep.RegionHeld3
section
namespace Go.Proofs.Ytlbccpiadmcpjaa
open Go.ChangeShapes Go.WideShapes Go.ChangeAt Go.RowKit
set_option linter.unusedVariables false
set_option linter.unusedSimpArgs false

structure Iq where
  (id : Int) (mult : Int) (price : Int) (nxt : Int) (mv : Option Addr) (mvL mvC : Nat)
deriving DecidableEq
def Iq.cells (g : Iq) : List Value := [.int .i64 g.id, .int .i64 g.mult, .int .i64 g.price, .int .i64 g.nxt, .slice g.mv g.mvL g.mvC]
def Iq.val (g : Iq) : Value := .agg #[.int .i64 g.id, .int .i64 g.mult, .int .i64 g.price, .int .i64 g.nxt, .slice g.mv g.mvL g.mvC]
def Iq.zero : Iq := ⟨0, 0, 0, 0, none, 0, 0⟩
theorem Iq.len (g : Iq) : g.cells.length = 5 := rfl
theorem Iq.one (g : Iq) : ∀ u ∈ g.cells, u.oneCell' = true := by
  intro u hu
  simp only [Iq.cells, List.mem_cons, List.not_mem_nil, or_false] at hu
  rcases hu with h | h | h | h | h <;> subst h <;> rfl
def Iq.at (g : Iq) (w : World) (b o : Nat) : Prop :=
  w.cell? ⟨b, o, none⟩ = some (.int .i64 g.id) ∧ w.cell? ⟨b, o + 1, none⟩ = some (.int .i64 g.mult) ∧ w.cell? ⟨b, o + 2, none⟩ = some (.int .i64 g.price) ∧ w.cell? ⟨b, o + 3, none⟩ = some (.int .i64 g.nxt) ∧ w.cell? ⟨b, o + 4, none⟩ = some (.slice g.mv g.mvL g.mvC)
theorem Iq.at_of {w : World} {b o : Nat} {g : Iq} (h : ∀ j u, g.cells[j]? = some u → w.cell? ⟨b, o + j, none⟩ = some u) : g.at w b o :=
  ⟨h 0 _ rfl, h 1 _ rfl, h 2 _ rfl, h 3 _ rfl, h 4 _ rfl⟩
theorem Iq.at_keep {w w' : World} {b o : Nat} {g : Iq} (h : g.at w b o) (k : ∀ i, w'.cell? ⟨b, i, none⟩ = w.cell? ⟨b, i, none⟩) : g.at w' b o := by
  unfold Iq.at at *
  simp only [k]
  exact h
theorem Sl.iq {w : World} {A : Option Addr} {l : List Iq} (h : Sl w A (rc Iq.cells l)) {k : Nat} (hk : k < l.length) : ∃ b o, A = some ⟨b, o, none⟩ ∧ b < w.heap.size ∧ l[k].at w b (o + k * 5) := by
  obtain ⟨b, o, hA, hb, hc⟩ := Sl.elem (m := 5) Iq.len (by decide) h hk
  exact ⟨b, o, hA, hb, Iq.at_of hc⟩
def Iq.Tells (F : Nat) (caps : Array Value) (p : Iq → Bool) (B : Nat) (w : World) : Prop :=
  ∀ (g : Iq) (W : World), Below B w W → Calls Try.prog F (#[g.val] ++ caps) W fun e w' => e = .returned (.bool (p g)) ∧ Below W.heap.size W w'
theorem Iq.Tells.below {F : Nat} {caps : Array Value} {p : Iq → Bool} {B : Nat} {w w1 : World} (h : Iq.Tells F caps p B w) (hb : Below B w w1) {C : Nat} (hC : B ≤ C) : Iq.Tells F caps p C w1 :=
  fun g W hW => h g W (hb.trans (hW.mono hC))
set_option maxHeartbeats 1000000 in
set_option maxRecDepth 100000 in
theorem index_iq (A : Option Addr) (cap : Nat) (l : List Iq) (F : Nat) (caps : Array Value) (p : Iq → Bool) (w : World) (hl : l.length ≤ 1000000) (hs : Sl w A (rc Iq.cells l)) (hF : Ent Try.prog F) (hp : Iq.Tells F caps p w.heap.size w) :
    Calls Try.prog 106 #[.slice A l.length cap, .func (.func F) #[] caps] w fun e w' => e = .returned (.int .i64 (atL p l)) ∧ Below w.heap.size w w' := by
  go_enter Try.func106, Try.ntmps106
  go_wp2
  go_loopw [8] (fun i wr => ∃ k : Nat, k ≤ l.length ∧ i = .int .i64 k ∧ (∀ j, (hj : j < l.length) → j < k → p l[j] = false) ∧ Below w.heap.size w wr) (fun i _ => l.length - (intOf i).toNat)
  case atStart => exact ⟨0, by omega, rfl, fun j hj h => absurd h (by omega), Below.refl _ _⟩
  case round =>
    obtain ⟨k, hk, rfl, hno, hB⟩ := hrel
    by_cases hlt2 : k < l.length
    · obtain ⟨b, o, rfl, hbw, hg⟩ := hs.iq hlt2
      have hg1 : l[k].at wr b (o + k * 5) := Iq.at_keep (w := w) hg fun i => hB.cell (p := ⟨b, i, none⟩) hbw
      obtain ⟨g0, g1, g2, g3, g4⟩ := hg1
      have hbr : b < wr.heap.size := Nat.lt_of_lt_of_le hbw hB.size
      have step := hp l[k] wr hB
      cases hq : p l[k] with
      | true =>
        have HQ := Lib.hid hq
        go_wp2_with fail
        rw [hF, Oper.upon_enter]
        refine step.mono ?_
        rintro e w1 ⟨rfl, hb1⟩
        have hB1 := since_step hB hb1
        clear hb1
        rw [HQ.out]
        go_wp2
        go_ret
        exact ⟨retI (atL_some hlt2 (fun j hj => hno j (by omega) hj) HQ.out).symm, hB1⟩
      | false =>
        have HQ := Lib.hid hq
        go_wp2_with fail
        rw [hF, Oper.upon_enter]
        refine step.mono ?_
        rintro e w1 ⟨rfl, hb1⟩
        have hB1 := since_step hB hb1
        clear hb1
        rw [HQ.out]
        go_wp2
        go_roundw
        case rel =>
          refine ⟨k + 1, by omega, by go_num, fun j hj hjk => ?_, hB1⟩
          rcases Nat.lt_or_ge j k with h | h
          · exact hno j hj h
          · obtain rfl : j = k := by omega
            exact HQ.out
        case measure => simp [intOf]; omega
    · go_wp2
      go_ret
      exact ⟨retI (atL_none fun j hj => hno j hj (by omega)).symm, hB⟩
end Go.Proofs.Ytlbccpiadmcpjaa
end
section
namespace Go.Proofs.Ytlbccpiadmcpjaa
open Go.ChangeShapes Go.WideShapes Go.ChangeAt Go.RowKit
set_option linter.unusedVariables false
set_option linter.unusedSimpArgs false

def Iq.Tells2 (F : Nat) (caps : Array Value) (ah : Iq → Iq → Bool) (B : Nat) (w : World) : Prop :=
  ∀ (a b : Iq) (W : World), Below B w W → Calls Try.prog F (#[a.val, b.val] ++ caps) W fun e w' => e = .returned (.bool (ah a b)) ∧ Below W.heap.size W w'
theorem Iq.Tells2.below {F : Nat} {caps : Array Value} {ah : Iq → Iq → Bool} {B : Nat} {w w1 : World} (h : Iq.Tells2 F caps ah B w) (hb : Below B w w1) {C : Nat} (hC : B ≤ C) : Iq.Tells2 F caps ah C w1 :=
  fun a b W hW => h a b W (hb.trans (hW.mono hC))
structure Iq.Bx (w : World) (b : Nat) (g : Iq) : Prop where
  lt : b < w.heap.size
  at_ : g.at w b 0
  hp : w.heap[b]? = some (.cells g.cells.toArray 48 (0, 0))
theorem Iq.Bx.new (w : World) (g : Iq) : Iq.Bx (w.alloc (.cells g.cells.toArray 48)) w.heap.size g := by
  have h := heap_alloc_new w (.cells g.cells.toArray 48 (0, 0))
  refine ⟨by simp, Iq.at_of fun j u hu => ?_, h⟩
  rw [Nat.zero_add, cell_of_row _ _ j g.cells.toArray 48 (0, 0) h]
  simpa using hu
theorem Iq.Bx.below {w w' : World} {b : Nat} {g : Iq} (h : Iq.Bx w b g) (hb : Below w.heap.size w w') : Iq.Bx w' b g :=
  ⟨Nat.lt_of_lt_of_le h.lt hb.size, Iq.at_keep h.at_ fun i => hb.cell (p := ⟨b, i, none⟩) h.lt, (hb.block b h.lt).trans h.hp⟩
theorem Iq.Bx.sl {w : World} {b : Nat} {g : Iq} (h : Iq.Bx w b g) : Sl w (some ⟨b, 0, none⟩) g.cells := by
  intro _
  refine ⟨b, 0, rfl, fun j u hu => ?_⟩
  rw [Nat.zero_add, cell_of_row _ _ j g.cells.toArray 48 (0, 0) h.hp]
  simpa using hu
theorem Iq.Bx.got {w : World} {b : Nat} {g : Iq} (h : Iq.Bx w b g) : w.cell? ⟨b, 0, none⟩ = some (.int .i64 g.id) ∧ w.cell? ⟨b, 1, none⟩ = some (.int .i64 g.mult) ∧ w.cell? ⟨b, 2, none⟩ = some (.int .i64 g.price) ∧ w.cell? ⟨b, 3, none⟩ = some (.int .i64 g.nxt) ∧ w.cell? ⟨b, 4, none⟩ = some (.slice g.mv g.mvL g.mvC) := by
  have := h.at_
  unfold Iq.at at this
  simpa only [Nat.zero_add] using this
end Go.Proofs.Ytlbccpiadmcpjaa
end
section
namespace Go.Proofs.Ytlbccpiadmcpjaa
open Go.ChangeShapes Go.WideShapes Go.ChangeAt Go.RowKit
set_option linter.unusedVariables false
set_option linter.unusedSimpArgs false

structure Sx where
  (n : Int)
deriving DecidableEq
def Sx.cells (g : Sx) : List Value := [.int .i64 g.n]
def Sx.val (g : Sx) : Value := .int .i64 g.n
def Sx.zero : Sx := ⟨0⟩
theorem Sx.len (g : Sx) : g.cells.length = 1 := rfl
theorem Sx.one (g : Sx) : ∀ u ∈ g.cells, u.oneCell' = true := by
  intro u hu
  simp only [Sx.cells, List.mem_cons, List.not_mem_nil, or_false] at hu
  subst hu; rfl
def Sx.at (g : Sx) (w : World) (b o : Nat) : Prop :=
  w.cell? ⟨b, o, none⟩ = some (.int .i64 g.n) ∧ True
theorem Sx.at_of {w : World} {b o : Nat} {g : Sx} (h : ∀ j u, g.cells[j]? = some u → w.cell? ⟨b, o + j, none⟩ = some u) : g.at w b o :=
  ⟨h 0 _ rfl, trivial⟩
theorem Sx.at_keep {w w' : World} {b o : Nat} {g : Sx} (h : g.at w b o) (k : ∀ i, w'.cell? ⟨b, i, none⟩ = w.cell? ⟨b, i, none⟩) : g.at w' b o := by
  unfold Sx.at at *
  simp only [k]
  exact h
theorem Sl.sx {w : World} {A : Option Addr} {l : List Sx} (h : Sl w A (rc Sx.cells l)) {k : Nat} (hk : k < l.length) : ∃ b o, A = some ⟨b, o, none⟩ ∧ b < w.heap.size ∧ l[k].at w b (o + k) := by
  obtain ⟨b, o, hA, hb, hc⟩ := Sl.elem (m := 1) Sx.len (by decide) h hk
  exact ⟨b, o, hA, hb, Sx.at_of (by simpa only [Nat.mul_one] using hc)⟩
theorem ESx : Elem Try.prog 46 2 1 8 := Elem.mk' (z := .int .i64 0) (by kernel_rfl) (by kernel_rfl) (by decide) (by decide)
def Sx.Tells (F : Nat) (caps : Array Value) (p : Sx → Bool) (B : Nat) (w : World) : Prop :=
  ∀ (g : Sx) (W : World), Below B w W → Calls Try.prog F (#[g.val] ++ caps) W fun e w' => e = .returned (.bool (p g)) ∧ Below W.heap.size W w'
theorem Sx.Tells.below {F : Nat} {caps : Array Value} {p : Sx → Bool} {B : Nat} {w w1 : World} (h : Sx.Tells F caps p B w) (hb : Below B w w1) {C : Nat} (hC : B ≤ C) : Sx.Tells F caps p C w1 :=
  fun g W hW => h g W (hb.trans (hW.mono hC))
set_option maxHeartbeats 1000000 in
set_option maxRecDepth 100000 in
theorem clone_sx (A : Option Addr) (cap : Nat) (l : List Sx) (w : World) (hl : l.length ≤ 1000000) (hs : Sl w A (rc Sx.cells l)) :
    Calls Try.prog 108 #[.slice A l.length cap] w fun e w' => (∃ A' c', e = .returned (.slice A' l.length c') ∧ w'.ownsRow w.heap.size 2 1 (.slice A' l.length c') l.length (rc Sx.cells l)) ∧ Below w.heap.size w w' := by
  cases A with
  | none =>
    have hn : l = [] := by
      cases l with
      | nil => rfl
      | cons g m => obtain ⟨b, o, e, _⟩ := hs.sx (k := 0) (by simp); cases e
    subst hn
    have hnil := fun w : World => Go.Lib.run_eql_slice_nil (P := Try.prog) w 46 2 none 0 cap 0 0 ESx.und
    go_enter Try.func108, Try.ntmps108
    go_wp2_with fail
    go_ret
    exact ⟨⟨none, 0, rfl, own_nil _ _ _⟩, Below.refl _ _⟩
  | some ad =>
    have hnil := fun w : World => Go.Lib.run_eql_slice_nil (P := Try.prog) w 46 2 (some ad) l.length cap 0 0 ESx.und
    go_enter Try.func108, Try.ntmps108
    go_wp2_with (first
      | (at_builtin; refine wpList_app rfl (.tmp 5) (.tmp 6) rfl ESx rfl rfl (World.ownsRow_made (w := w) #[] 0 (Nat.le_refl _) (Nat.zero_le _) rfl) (rc_length Sx.len l) (hs.alloc _) (rc_one Sx.one l) (by unfold maxLen; omega) (by omega) (by simp) ?_; intro A2 c2 w2 hown2 hg2 hb2; simp only [Nat.zero_add, List.nil_append] at hown2)
      | fail)
    refine bodyPost_ret (results_tmp rfl _ _ _) rfl ⟨⟨A2, c2, by simp, by simpa using hown2⟩, ?_⟩
    exact Below.trans ((Below.refl _ _).alloc (Nat.le_refl _) _) hb2
end Go.Proofs.Ytlbccpiadmcpjaa
end
section
namespace Go.Proofs.Ytlbccpiadmcpjaa
open Go.ChangeShapes Go.WideShapes Go.ChangeAt Go.RowKit
set_option linter.unusedVariables false
set_option linter.unusedSimpArgs false

def Sx.Tells2 (F : Nat) (caps : Array Value) (ah : Sx → Sx → Bool) (B : Nat) (w : World) : Prop :=
  ∀ (a b : Sx) (W : World), Below B w W → Calls Try.prog F (#[a.val, b.val] ++ caps) W fun e w' => e = .returned (.bool (ah a b)) ∧ Below W.heap.size W w'
theorem Sx.Tells2.below {F : Nat} {caps : Array Value} {ah : Sx → Sx → Bool} {B : Nat} {w w1 : World} (h : Sx.Tells2 F caps ah B w) (hb : Below B w w1) {C : Nat} (hC : B ≤ C) : Sx.Tells2 F caps ah C w1 :=
  fun a b W hW => h a b W (hb.trans (hW.mono hC))
structure Sx.Bx (w : World) (b : Nat) (g : Sx) : Prop where
  lt : b < w.heap.size
  at_ : g.at w b 0
  hp : w.heap[b]? = some (.cells g.cells.toArray 2 (0, 0))
theorem Sx.Bx.new (w : World) (g : Sx) : Sx.Bx (w.alloc (.cells g.cells.toArray 2)) w.heap.size g := by
  have h := heap_alloc_new w (.cells g.cells.toArray 2 (0, 0))
  refine ⟨by simp, Sx.at_of fun j u hu => ?_, h⟩
  rw [Nat.zero_add, cell_of_row _ _ j g.cells.toArray 2 (0, 0) h]
  simpa using hu
theorem Sx.Bx.below {w w' : World} {b : Nat} {g : Sx} (h : Sx.Bx w b g) (hb : Below w.heap.size w w') : Sx.Bx w' b g :=
  ⟨Nat.lt_of_lt_of_le h.lt hb.size, Sx.at_keep h.at_ fun i => hb.cell (p := ⟨b, i, none⟩) h.lt, (hb.block b h.lt).trans h.hp⟩
theorem Sx.Bx.sl {w : World} {b : Nat} {g : Sx} (h : Sx.Bx w b g) : Sl w (some ⟨b, 0, none⟩) g.cells := by
  intro _
  refine ⟨b, 0, rfl, fun j u hu => ?_⟩
  rw [Nat.zero_add, cell_of_row _ _ j g.cells.toArray 2 (0, 0) h.hp]
  simpa using hu
theorem Sx.Bx.got {w : World} {b : Nat} {g : Sx} (h : Sx.Bx w b g) : w.cell? ⟨b, 0, none⟩ = some (.int .i64 g.n) ∧ True := by
  have := h.at_
  unfold Sx.at at this
  simpa only [Nat.zero_add] using this
end Go.Proofs.Ytlbccpiadmcpjaa
end
