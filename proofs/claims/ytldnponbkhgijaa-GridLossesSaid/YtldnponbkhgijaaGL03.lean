import Derived.Deep.RegionLaw
import Derived.Lib.SliceRun
import Derived.Test.YtldnponbkhgijaaGL02
import Derived.Deep.DeepCutAuto
import Derived.Deep.RegionHeld3
section
namespace Go.Proofs.Ytldnponbkhgijaa
open Go.ChangeShapes Go.WideShapes Go.ChangeAt Go.RowKit
set_option linter.unusedVariables false
set_option linter.unusedSimpArgs false

structure Sx where
  (n : Int)
deriving DecidableEq
def Sx.cells (g : Sx) : List Value := [.int .i64 g.n]
def Sx.val (g : Sx) : Value := .int .i64 g.n
def Sx.zero : Sx := ⟨0⟩
theorem Sx.len (g : Sx) : g.cells.length = 1 := rfl
theorem Sx.one (g : Sx) : ∀ u ∈ g.cells, u.oneCell' = true := by
  intro u hu
  simp only [Sx.cells, List.mem_cons, List.not_mem_nil, or_false] at hu
  subst hu; rfl
def Sx.at (g : Sx) (w : World) (b o : Nat) : Prop :=
  w.cell? ⟨b, o, none⟩ = some (.int .i64 g.n) ∧ True
theorem Sx.at_of {w : World} {b o : Nat} {g : Sx} (h : ∀ j u, g.cells[j]? = some u → w.cell? ⟨b, o + j, none⟩ = some u) : g.at w b o :=
  ⟨h 0 _ rfl, trivial⟩
theorem Sx.at_keep {w w' : World} {b o : Nat} {g : Sx} (h : g.at w b o) (k : ∀ i, w'.cell? ⟨b, i, none⟩ = w.cell? ⟨b, i, none⟩) : g.at w' b o := by
  unfold Sx.at at *
  simp only [k]
  exact h
theorem Sl.sx {w : World} {A : Option Addr} {l : List Sx} (h : Sl w A (rc Sx.cells l)) {k : Nat} (hk : k < l.length) : ∃ b o, A = some ⟨b, o, none⟩ ∧ b < w.heap.size ∧ l[k].at w b (o + k) := by
  obtain ⟨b, o, hA, hb, hc⟩ := Sl.elem (m := 1) Sx.len (by decide) h hk
  exact ⟨b, o, hA, hb, Sx.at_of (by simpa only [Nat.mul_one] using hc)⟩
theorem ESx : Elem Try.prog 151 2 1 8 := Elem.mk' (z := .int .i64 0) (by kernel_rfl) (by kernel_rfl) (by decide) (by decide)
def Sx.Tells (F : Nat) (caps : Array Value) (p : Sx → Bool) (B : Nat) (w : World) : Prop :=
  ∀ (g : Sx) (W : World), Below B w W → Calls Try.prog F (#[g.val] ++ caps) W fun e w' => e = .returned (.bool (p g)) ∧ Below W.heap.size W w'
theorem Sx.Tells.below {F : Nat} {caps : Array Value} {p : Sx → Bool} {B : Nat} {w w1 : World} (h : Sx.Tells F caps p B w) (hb : Below B w w1) {C : Nat} (hC : B ≤ C) : Sx.Tells F caps p C w1 :=
  fun g W hW => h g W (hb.trans (hW.mono hC))
set_option maxHeartbeats 1000000 in
set_option maxRecDepth 100000 in
theorem clone_sx (A : Option Addr) (cap : Nat) (l : List Sx) (w : World) (hl : l.length ≤ 1000000) (hs : Sl w A (rc Sx.cells l)) :
    Calls Try.prog 199 #[.slice A l.length cap] w fun e w' => (∃ A' c', e = .returned (.slice A' l.length c') ∧ w'.ownsRow w.heap.size 2 1 (.slice A' l.length c') l.length (rc Sx.cells l)) ∧ Below w.heap.size w w' := by
  cases A with
  | none =>
    have hn : l = [] := by
      cases l with
      | nil => rfl
      | cons g m => obtain ⟨b, o, e, _⟩ := hs.sx (k := 0) (by simp); cases e
    subst hn
    have hnil := fun w : World => Go.Lib.run_eql_slice_nil (P := Try.prog) w 151 2 none 0 cap 0 0 ESx.und
    go_enter Try.func199, Try.ntmps199
    go_wp2_with fail
    go_ret
    exact ⟨⟨none, 0, rfl, own_nil _ _ _⟩, Below.refl _ _⟩
  | some ad =>
    have hnil := fun w : World => Go.Lib.run_eql_slice_nil (P := Try.prog) w 151 2 (some ad) l.length cap 0 0 ESx.und
    go_enter Try.func199, Try.ntmps199
    go_wp2_with (first
      | (at_builtin; refine wpList_app rfl (.tmp 5) (.tmp 6) rfl ESx rfl rfl (World.ownsRow_made (w := w) #[] 0 (Nat.le_refl _) (Nat.zero_le _) rfl) (rc_length Sx.len l) (hs.alloc _) (rc_one Sx.one l) (by unfold maxLen; omega) (by omega) (by simp) ?_; intro A2 c2 w2 hown2 hg2 hb2; simp only [Nat.zero_add, List.nil_append] at hown2)
      | fail)
    refine bodyPost_ret (results_tmp rfl _ _ _) rfl ⟨⟨A2, c2, by simp, by simpa using hown2⟩, ?_⟩
    exact Below.trans ((Below.refl _ _).alloc (Nat.le_refl _) _) hb2
end Go.Proofs.Ytldnponbkhgijaa
end
section
namespace Go.Proofs.Ytldnponbkhgijaa
open Go.ChangeShapes Go.WideShapes Go.ChangeAt Go.RowKit
set_option linter.unusedVariables false
set_option linter.unusedSimpArgs false

def Sx.Tells2 (F : Nat) (caps : Array Value) (ah : Sx → Sx → Bool) (B : Nat) (w : World) : Prop :=
  ∀ (a b : Sx) (W : World), Below B w W → Calls Try.prog F (#[a.val, b.val] ++ caps) W fun e w' => e = .returned (.bool (ah a b)) ∧ Below W.heap.size W w'
theorem Sx.Tells2.below {F : Nat} {caps : Array Value} {ah : Sx → Sx → Bool} {B : Nat} {w w1 : World} (h : Sx.Tells2 F caps ah B w) (hb : Below B w w1) {C : Nat} (hC : B ≤ C) : Sx.Tells2 F caps ah C w1 :=
  fun a b W hW => h a b W (hb.trans (hW.mono hC))
structure Sx.Bx (w : World) (b : Nat) (g : Sx) : Prop where
  lt : b < w.heap.size
  at_ : g.at w b 0
  hp : w.heap[b]? = some (.cells g.cells.toArray 2 (0, 0))
theorem Sx.Bx.new (w : World) (g : Sx) : Sx.Bx (w.alloc (.cells g.cells.toArray 2)) w.heap.size g := by
  have h := heap_alloc_new w (.cells g.cells.toArray 2 (0, 0))
  refine ⟨by simp, Sx.at_of fun j u hu => ?_, h⟩
  rw [Nat.zero_add, cell_of_row _ _ j g.cells.toArray 2 (0, 0) h]
  simpa using hu
theorem Sx.Bx.below {w w' : World} {b : Nat} {g : Sx} (h : Sx.Bx w b g) (hb : Below w.heap.size w w') : Sx.Bx w' b g :=
  ⟨Nat.lt_of_lt_of_le h.lt hb.size, Sx.at_keep h.at_ fun i => hb.cell (p := ⟨b, i, none⟩) h.lt, (hb.block b h.lt).trans h.hp⟩
theorem Sx.Bx.sl {w : World} {b : Nat} {g : Sx} (h : Sx.Bx w b g) : Sl w (some ⟨b, 0, none⟩) g.cells := by
  intro _
  refine ⟨b, 0, rfl, fun j u hu => ?_⟩
  rw [Nat.zero_add, cell_of_row _ _ j g.cells.toArray 2 (0, 0) h.hp]
  simpa using hu
theorem Sx.Bx.got {w : World} {b : Nat} {g : Sx} (h : Sx.Bx w b g) : w.cell? ⟨b, 0, none⟩ = some (.int .i64 g.n) ∧ True := by
  have := h.at_
  unfold Sx.at at this
  simpa only [Nat.zero_add] using this
end Go.Proofs.Ytldnponbkhgijaa
end
section
namespace Go.Proofs.Ytldnponbkhgijaa
open Go.ChangeShapes Go.WideShapes Go.ChangeAt Go.RowKit
set_option linter.unusedVariables false
set_option linter.unusedSimpArgs false
section
variable {α : Type}
def putR (ah : α → α → Bool) : List α → α → List α
  | [], x => [x]
  | a :: r, x => if ah a x then a :: putR ah r x else if ah x a then x :: a :: r else x :: r
structure Ord (ah : α → α → Bool) : Prop where
  tr : ∀ a b c, ah a b = true → ah b c = true → ah a c = true
  asy : ∀ a b, ah a b = true → ah b a = false
  cong : ∀ a x b, ah a x = false → ah x a = false → ah a b = ah x b
  cong2 : ∀ a x b, ah a x = false → ah x a = false → ah b a = ah b x
def eqv (ah : α → α → Bool) (x y : α) : Bool := !ah x y && !ah y x
theorem mem_putR {ah : α → α → Bool} (x : α) : ∀ (l : List α) (y : α), y ∈ putR ah l x → y = x ∨ y ∈ l
  | [], y, h => by simp [putR] at h; exact .inl h
  | a :: r, y, h => by
    unfold putR at h
    split at h
    · rcases List.mem_cons.1 h with h | h
      · exact .inr (by simp [h])
      · rcases mem_putR x r y h with h | h
        · exact .inl h
        · exact .inr (by simp [h])
    · split at h
      · rcases List.mem_cons.1 h with h | h
        · exact .inl h
        · exact .inr h
      · rcases List.mem_cons.1 h with h | h
        · exact .inl h
        · exact .inr (by simp [h])
theorem pairwise_putR {ah : α → α → Bool} (o : Ord ah) (x : α) : ∀ (l : List α), l.Pairwise (fun a b => ah a b = true) → (putR ah l x).Pairwise (fun a b => ah a b = true)
  | [], _ => by simp [putR]
  | a :: r, hp => by
    have ha : ∀ b ∈ r, ah a b = true := fun b hb => List.rel_of_pairwise_cons hp hb
    unfold putR
    by_cases h : ah a x = true
    · rw [if_pos h]
      refine List.Pairwise.cons (fun b hb => ?_) (pairwise_putR o x r hp.of_cons)
      rcases mem_putR x r b hb with rfl | hb
      · exact h
      · exact ha b hb
    · rw [if_neg h]
      have h' : ah a x = false := by simpa using h
      by_cases h2 : ah x a = true
      · rw [if_pos h2]
        refine List.Pairwise.cons (fun b hb => ?_) hp
        rcases List.mem_cons.1 hb with rfl | hb
        · exact h2
        · exact o.tr _ _ _ h2 (ha b hb)
      · rw [if_neg h2]
        have h2' : ah x a = false := by simpa using h2
        exact List.Pairwise.cons (fun b hb => by rw [← o.cong a x b h' h2']; exact ha b hb) hp.of_cons
theorem length_putR {ah : α → α → Bool} (x : α) : ∀ (l : List α), (putR ah l x).length ≤ l.length + 1
  | [] => by simp [putR]
  | a :: r => by
    have := length_putR (ah := ah) x r
    unfold putR
    split
    · simp; omega
    · split <;> simp
def refPut (ah : α → α → Bool) (l : List α) (x : α) : List α :=
  (l.filter fun y => !eqv ah x y).take ((l.filter fun y => !eqv ah x y).findIdx fun y => !ah y x) ++ x :: (l.filter fun y => !eqv ah x y).drop ((l.filter fun y => !eqv ah x y).findIdx fun y => !ah y x)
theorem refPut_eq {ah : α → α → Bool} (o : Ord ah) (x : α) : ∀ l : List α, l.Pairwise (fun a b => ah a b = true) → refPut ah l x = putR ah l x := by
  intro l
  induction l with
  | nil => intro _; simp [refPut, putR]
  | cons a r ih =>
    intro hp
    have hr := hp.of_cons
    have ha : ∀ b ∈ r, ah a b = true := fun b hb => List.rel_of_pairwise_cons hp hb
    unfold putR
    by_cases h : ah a x = true
    · rw [if_pos h, ← ih hr]
      have h2 := o.asy _ _ h
      unfold refPut
      rw [List.filter_cons]
      have he : eqv ah x a = false := by simp [eqv, h]
      simp only [he, Bool.not_false, if_true, List.findIdx_cons, h, Bool.not_true, cond_false, List.take_succ_cons, List.drop_succ_cons, List.cons_append]
    · have h' : ah a x = false := by simpa using h
      rw [if_neg h]
      have hall : ∀ b ∈ r, ah x b = true → eqv ah x b = false ∧ ah b x = false := fun b hb hxb => ⟨by simp [eqv, hxb], o.asy _ _ hxb⟩
      by_cases h2 : ah x a = true
      · rw [if_pos h2]
        have hf : (a :: r).filter (fun y => !eqv ah x y) = a :: r := by
          rw [List.filter_eq_self]
          intro b hb
          rcases List.mem_cons.1 hb with rfl | hb
          · simp [eqv, h2]
          · simp [eqv, o.tr _ _ _ h2 (ha b hb)]
        unfold refPut
        rw [hf, List.findIdx_cons, h']
        simp
      · have h2' : ah x a = false := by simpa using h2
        rw [if_neg h2]
        have hx : ∀ b ∈ r, ah x b = true := fun b hb => by rw [← o.cong a x b h' h2']; exact ha b hb
        have hf : (a :: r).filter (fun y => !eqv ah x y) = r := by
          rw [List.filter_cons]
          have he : eqv ah x a = true := by simp [eqv, h', h2']
          simp only [he, Bool.not_true, Bool.false_eq_true, if_false]
          rw [List.filter_eq_self]
          intro b hb
          simp [eqv, hx b hb]
        unfold refPut
        rw [hf]
        cases r with
        | nil => simp
        | cons b s =>
          rw [List.findIdx_cons, o.asy _ _ (hx b (by simp))]
          simp
end
end Go.Proofs.Ytldnponbkhgijaa
end
section
namespace Go.Proofs.Ytldnponbkhgijaa
open Go.ChangeShapes Go.WideShapes Go.ChangeAt Go.RowKit
set_option linter.unusedVariables false
set_option linter.unusedSimpArgs false

theorem own_kept_types {w w' : World} {B B' e e' s s' : Nat} {v v' : Value} {n n' : Nat} {xs ys : List Value} (hne : e ≠ e') (h : w.ownsRow B e s v n xs) (ho : w.ownsRow B' e' s' v' n' ys) (hg : w.grownBy w' v'.ownBlock) : w'.ownsRow B e s v n xs := by
  refine h.kept hg ?_
  rcases h.2 with ⟨rfl, _⟩ | ⟨g, cap, cur, rfl, _, hh, _⟩
  · exact .inl rfl
  · right
    rcases ho.2 with ⟨rfl, _⟩ | ⟨g', cap', cur', rfl, _, hh', _⟩
    · simp [Value.ownBlock]
    · simp only [Value.ownBlock, ne_eq, Option.some.injEq]
      intro e
      subst e
      rw [hh] at hh'
      injection hh' with hh'
      injection hh' with _ e
      exact absurd e hne
theorem own_setFar' {w : World} {B e size n : Nat} {v : Value} {xs : List Value} (h : w.ownsRow B e size v n xs) {p : Addr} (hp : p.block < B) (u : Value) : (w.setCell p u).ownsRow B e size v n xs := by
  obtain ⟨h1, h2⟩ := h
  refine ⟨h1, ?_⟩
  rcases h2 with h2 | ⟨g, cap, cur, hv, hg, hh, hr⟩
  · exact .inl h2
  · refine .inr ⟨g, cap, cur, hv, hg, ?_, hr⟩
    have hne : p.block ≠ g := by omega
    rw [← hh]
    unfold World.setCell
    simp [Array.getElem?_modify, hne]
end Go.Proofs.Ytldnponbkhgijaa
end
