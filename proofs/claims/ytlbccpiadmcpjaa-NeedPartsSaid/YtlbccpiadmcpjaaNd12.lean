import Derived.Test.YtlbccpiadmcpjaaNd02
import Derived.Test.YtlbccpiadmcpjaaNd10
import Derived.Test.YtlbccpiadmcpjaaNd11
import Derived.Deep.RegionLaw
import Derived.Lib.SliceRun
import Derived.Deep.DeepCutAuto
import Derived.Deep.RegionHeld3
section
namespace Go.Proofs.Ytlbccpiadmcpjaa
open Go.ChangeShapes Go.WideShapes Go.ChangeAt Go.RowKit
set_option linter.unusedVariables false
set_option linter.unusedSimpArgs false

structure Pc where
  ac : Int
  cl : Int
  L : List Lg
deriving DecidableEq
structure PoIs (w : World) (g : Po) (c : Pc) : Prop where
  ac : g.ac = c.ac
  cl : g.cl = c.cl
  len : g.lgL = c.L.length
  sl : Sl w g.lg (rc Lg.cells c.L)
theorem PoIs.below {w w' : World} {g : Po} {c : Pc} (h : PoIs w g c) (hb : Below w.heap.size w w') : PoIs w' g c := ⟨h.ac, h.cl, h.len, h.sl.below hb⟩
def PoTab (w : World) (l : List Po) (cs : List Pc) : Prop := l.length = cs.length ∧ ∀ i, (h : i < l.length) → (h2 : i < cs.length) → PoIs w l[i] cs[i]
theorem PoTab.below {w w' : World} {l : List Po} {cs : List Pc} (h : PoTab w l cs) (hb : Below w.heap.size w w') : PoTab w' l cs := ⟨h.1, fun i h1 h2 => (h.2 i h1 h2).below hb⟩
theorem PoTab.nil (w : World) : PoTab w [] [] := ⟨rfl, fun i h => by simp at h⟩
theorem PoTab.cons {w : World} {g : Po} {c : Pc} {l : List Po} {cs : List Pc} : PoTab w (g :: l) (c :: cs) ↔ PoIs w g c ∧ PoTab w l cs := by
  constructor
  · rintro ⟨h1, h2⟩
    exact ⟨h2 0 (by simp) (by simp), by simpa using h1, fun i a b => h2 (i + 1) (by simpa using a) (by simpa using b)⟩
  · rintro ⟨h0, h1, h2⟩
    refine ⟨by simpa using h1, fun i a b => ?_⟩
    cases i with
    | zero => exact h0
    | succ i => exact h2 i (by simpa using a) (by simpa using b)
theorem PoTab.append {w : World} : ∀ {l m : List Po} {cs ds : List Pc}, PoTab w l cs → PoTab w m ds → PoTab w (l ++ m) (cs ++ ds)
  | [], m, [], ds, _, h => h
  | [], _, _ :: _, _, h, _ => by have := h.1; simp at this
  | _ :: _, _, [], _, h, _ => by have := h.1; simp at this
  | a :: l, m, d :: cs, ds, h, k => by
    obtain ⟨h1, h2⟩ := PoTab.cons.1 h
    exact PoTab.cons.2 ⟨h1, PoTab.append h2 k⟩
theorem PoTab.take {w : World} {l : List Po} {cs : List Pc} (h : PoTab w l cs) (k : Nat) : PoTab w (l.take k) (cs.take k) := by
  refine ⟨by simp [h.1], fun i h1 h2 => ?_⟩
  rw [List.getElem_take, List.getElem_take]
  exact h.2 i (by simp at h1; omega) (by simp at h2; omega)
theorem PoTab.drop {w : World} {l : List Po} {cs : List Pc} (h : PoTab w l cs) (k : Nat) : PoTab w (l.drop k) (cs.drop k) := by
  refine ⟨by simp [h.1], fun i h1 h2 => ?_⟩
  rw [List.getElem_drop, List.getElem_drop]
  exact h.2 _ (by simp at h1; omega) (by simp at h2; omega)
theorem PoTab.filter {w : World} {p : Po → Bool} {q : Pc → Bool} (hpq : ∀ g c, PoIs w g c → p g = q c) : ∀ {l : List Po} {cs : List Pc}, PoTab w l cs → PoTab w (l.filter p) (cs.filter q)
  | [], [], _ => PoTab.nil w
  | [], _ :: _, h => by have := h.1; simp at this
  | _ :: _, [], h => by have := h.1; simp at this
  | a :: l, d :: cs, h => by
    obtain ⟨h1, h2⟩ := PoTab.cons.1 h
    rw [List.filter_cons, List.filter_cons, hpq a d h1]
    split
    · exact PoTab.cons.2 ⟨h1, PoTab.filter hpq h2⟩
    · exact PoTab.filter hpq h2
theorem PoTab.put {w : World} {g : Po} {c : Pc} {ah : Po → Po → Bool} {ac : Pc → Pc → Bool} (hah : ∀ g c g' c', PoIs w g c → PoIs w g' c' → ah g g' = ac c c') (hg : PoIs w g c) : ∀ {l : List Po} {cs : List Pc}, PoTab w l cs → PoTab w (putR ah l g) (putR ac cs c)
  | [], [], _ => PoTab.cons.2 ⟨hg, PoTab.nil w⟩
  | [], _ :: _, h => by have := h.1; simp at this
  | _ :: _, [], h => by have := h.1; simp at this
  | a :: l, d :: cs, h => by
    obtain ⟨h1, h2⟩ := PoTab.cons.1 h
    unfold putR
    rw [hah a d g c h1 hg, hah g c a d hg h1]
    split
    · exact PoTab.cons.2 ⟨h1, PoTab.put hah hg h2⟩
    · split
      · exact PoTab.cons.2 ⟨hg, PoTab.cons.2 ⟨h1, h2⟩⟩
      · exact PoTab.cons.2 ⟨hg, h2⟩
theorem PoTab.set {w : World} {l : List Po} {cs : List Pc} {g : Po} {c : Pc} (h : PoTab w l cs) (hg : PoIs w g c) (k : Nat) : PoTab w (l.set k g) (cs.set k c) := by
  refine ⟨by simp [h.1], fun i h1 h2 => ?_⟩
  rw [List.getElem_set, List.getElem_set]
  split
  · exact hg
  · exact h.2 i (by simpa using h1) (by simpa using h2)
theorem PoTab.find {w : World} {p : Po → Bool} {q : Pc → Bool} (hpq : ∀ g c, PoIs w g c → p g = q c) : ∀ {l : List Po} {cs : List Pc}, PoTab w l cs → (l.find? p = none ∧ cs.find? q = none) ∨ (∃ g c, l.find? p = some g ∧ cs.find? q = some c ∧ PoIs w g c)
  | [], [], _ => .inl ⟨rfl, rfl⟩
  | [], _ :: _, h => by have := h.1; simp at this
  | _ :: _, [], h => by have := h.1; simp at this
  | a :: l, d :: cs, h => by
    obtain ⟨h1, h2⟩ := PoTab.cons.1 h
    rw [List.find?_cons, List.find?_cons, hpq a d h1]
    cases q d with
    | true => exact .inr ⟨a, d, rfl, rfl, h1⟩
    | false => exact PoTab.find hpq h2
theorem PoTab.rising {w : World} {ah : Po → Po → Bool} {ac : Pc → Pc → Bool} (hah : ∀ g c g' c', PoIs w g c → PoIs w g' c' → ah g g' = ac c c') : ∀ {l : List Po} {cs : List Pc}, PoTab w l cs → risingL ah l = risingL ac cs
  | [], [], _ => rfl
  | [], _ :: _, h => by have := h.1; simp at this
  | _ :: _, [], h => by have := h.1; simp at this
  | [a], [d], h => rfl
  | [a], _ :: _ :: _, h => by have := h.1; simp at this
  | _ :: _ :: _, [d], h => by have := h.1; simp at this
  | a :: b :: l, d :: e :: cs, h => by
    obtain ⟨h1, h2⟩ := PoTab.cons.1 h
    obtain ⟨h3, h4⟩ := PoTab.cons.1 h2
    simp only [risingL]
    rw [hah a d b e h1 h3, PoTab.rising hah h2]
structure PoOwn (B : Nat) (w : World) (g : Po) (c : Pc) : Prop where
  ac : g.ac = c.ac
  cl : g.cl = c.cl
  len : g.lgL = c.L.length
  own : w.ownsRow B 51 2 (.slice g.lg c.L.length g.lgC) c.L.length (rc Lg.cells c.L)
theorem PoOwn.is {B : Nat} {w : World} {g : Po} {c : Pc} (h : PoOwn B w g c) : PoIs w g c := ⟨h.ac, h.cl, h.len, Sl.of_own h.own⟩
theorem PoOwn.below {B : Nat} {w w' : World} {g : Po} {c : Pc} (h : PoOwn B w g c) (hb : Below w.heap.size w w') : PoOwn B w' g c := ⟨h.ac, h.cl, h.len, own_below h.own hb⟩
theorem own_kept_po {w w' : World} {B B' : Nat} {v v' : Value} {n n' : Nat} {xs ys : List Value} (h : w.ownsRow B 51 2 v n xs) (ho : w.ownsRow B' 54 3 v' n' ys) (hg : w.grownBy w' v'.ownBlock) : w'.ownsRow B 51 2 v n xs := own_kept_types (by decide) h ho hg
theorem PoOwn.kept {w w' : World} {B B' : Nat} {g : Po} {c : Pc} {v' : Value} {n' : Nat} {ys : List Value} (h : PoOwn B w g c) (ho : w.ownsRow B' 54 3 v' n' ys) (hg : w.grownBy w' v'.ownBlock) : PoOwn B w' g c := ⟨h.ac, h.cl, h.len, own_kept_po h.own ho hg⟩
def PoOTab (B : Nat) (w : World) (l : List Po) (cs : List Pc) : Prop := l.length = cs.length ∧ ∀ i, (h : i < l.length) → (h2 : i < cs.length) → PoOwn B w l[i] cs[i]
theorem PoOTab.below {B : Nat} {w w' : World} {l : List Po} {cs : List Pc} (h : PoOTab B w l cs) (hb : Below w.heap.size w w') : PoOTab B w' l cs := ⟨h.1, fun i h1 h2 => (h.2 i h1 h2).below hb⟩
theorem PoOTab.kept {w w' : World} {B B' : Nat} {l : List Po} {cs : List Pc} {v' : Value} {n' : Nat} {ys : List Value} (h : PoOTab B w l cs) (ho : w.ownsRow B' 54 3 v' n' ys) (hg : w.grownBy w' v'.ownBlock) : PoOTab B w' l cs := ⟨h.1, fun i h1 h2 => (h.2 i h1 h2).kept ho hg⟩
structure BzPo (w : World) (b : Nat) : Prop where
  bk : Bk w b #[.int .i64 0, .int .i64 0, .slice none 0 0]
  fz : ∀ i, w.frozen? ⟨b, i, none⟩ = false
theorem BzPo.new (w : World) : BzPo (w.alloc (.cells #[.int .i64 0, .int .i64 0, .slice none 0 0] 54)) w.heap.size := ⟨Bk.new w _ _, fun i => by simp⟩
theorem BzPo.below {w w' : World} {b : Nat} (h : BzPo w b) (hb : Below w.heap.size w w') : BzPo w' b := ⟨h.bk.below hb, fun i => by rw [hb.frozen (p := ⟨b, i, none⟩) h.bk.1]; exact h.fz i⟩
theorem BzPo.got {w : World} {b : Nat} (h : BzPo w b) : w.cell? ⟨b, 0, none⟩ = some (.int .i64 0) ∧ w.cell? ⟨b, 1, none⟩ = some (.int .i64 0) ∧ w.cell? ⟨b, 2, none⟩ = some (.slice none 0 0) := by
  have h1 := h.bk.2
  exact ⟨h1 0, h1 1, h1 2⟩
structure AfPo (w : World) (b : Nat) (g : Po) : Prop where
  bx : Po.Bx w b g
  fz : ∀ i, w.frozen? ⟨b, i, none⟩ = false
theorem AfPo.below {w w' : World} {b : Nat} {g : Po} (h : AfPo w b g) (hb : Below w.heap.size w w') : AfPo w' b g := ⟨h.bx.below hb, fun i => by rw [hb.frozen (p := ⟨b, i, none⟩) h.bx.lt]; exact h.fz i⟩
end Go.Proofs.Ytlbccpiadmcpjaa
end
section
namespace Go.Proofs.Ytlbccpiadmcpjaa
open Go.ChangeShapes Go.WideShapes Go.ChangeAt Go.RowKit
set_option linter.unusedVariables false
set_option linter.unusedSimpArgs false

structure Fw where
  (ac : Int) (cl : Int) (amt : Int)
deriving DecidableEq
def Fw.cells (g : Fw) : List Value := [.int .i64 g.ac, .int .i64 g.cl, .int .i64 g.amt]
def Fw.val (g : Fw) : Value := .agg #[.int .i64 g.ac, .int .i64 g.cl, .int .i64 g.amt]
def Fw.zero : Fw := ⟨0, 0, 0⟩
theorem Fw.len (g : Fw) : g.cells.length = 3 := rfl
theorem Fw.one (g : Fw) : ∀ u ∈ g.cells, u.oneCell' = true := by
  intro u hu
  simp only [Fw.cells, List.mem_cons, List.not_mem_nil, or_false] at hu
  rcases hu with h | h | h <;> subst h <;> rfl
def Fw.at (g : Fw) (w : World) (b o : Nat) : Prop :=
  w.cell? ⟨b, o, none⟩ = some (.int .i64 g.ac) ∧ w.cell? ⟨b, o + 1, none⟩ = some (.int .i64 g.cl) ∧ w.cell? ⟨b, o + 2, none⟩ = some (.int .i64 g.amt)
theorem Fw.at_of {w : World} {b o : Nat} {g : Fw} (h : ∀ j u, g.cells[j]? = some u → w.cell? ⟨b, o + j, none⟩ = some u) : g.at w b o :=
  ⟨h 0 _ rfl, h 1 _ rfl, h 2 _ rfl⟩
theorem Fw.at_keep {w w' : World} {b o : Nat} {g : Fw} (h : g.at w b o) (k : ∀ i, w'.cell? ⟨b, i, none⟩ = w.cell? ⟨b, i, none⟩) : g.at w' b o := by
  unfold Fw.at at *
  simp only [k]
  exact h
def Fw.Tells (F : Nat) (caps : Array Value) (p : Fw → Bool) (B : Nat) (w : World) : Prop :=
  ∀ (g : Fw) (W : World), Below B w W → Calls Try.prog F (#[g.val] ++ caps) W fun e w' => e = .returned (.bool (p g)) ∧ Below W.heap.size W w'
theorem Fw.Tells.below {F : Nat} {caps : Array Value} {p : Fw → Bool} {B : Nat} {w w1 : World} (h : Fw.Tells F caps p B w) (hb : Below B w w1) {C : Nat} (hC : B ≤ C) : Fw.Tells F caps p C w1 :=
  fun g W hW => h g W (hb.trans (hW.mono hC))
end Go.Proofs.Ytlbccpiadmcpjaa
end
section
namespace Go.Proofs.Ytlbccpiadmcpjaa
open Go.ChangeShapes Go.WideShapes Go.ChangeAt Go.RowKit
set_option linter.unusedVariables false
set_option linter.unusedSimpArgs false

def Fw.Tells2 (F : Nat) (caps : Array Value) (ah : Fw → Fw → Bool) (B : Nat) (w : World) : Prop :=
  ∀ (a b : Fw) (W : World), Below B w W → Calls Try.prog F (#[a.val, b.val] ++ caps) W fun e w' => e = .returned (.bool (ah a b)) ∧ Below W.heap.size W w'
theorem Fw.Tells2.below {F : Nat} {caps : Array Value} {ah : Fw → Fw → Bool} {B : Nat} {w w1 : World} (h : Fw.Tells2 F caps ah B w) (hb : Below B w w1) {C : Nat} (hC : B ≤ C) : Fw.Tells2 F caps ah C w1 :=
  fun a b W hW => h a b W (hb.trans (hW.mono hC))
end Go.Proofs.Ytlbccpiadmcpjaa
end
