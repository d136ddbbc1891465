import Derived.Test.YtmjndpkfhdoljaaGreatCm39
import Derived.Test.YtmjndpkfhdoljaaGreatCm06
import Derived.Test.YtmjndpkfhdoljaaGreatCm31
import Derived.Test.YtmjndpkfhdoljaaGreatCm38
import Derived.Test.YtmjndpkfhdoljaaGreatCm21
import Derived.Test.YtmjndpkfhdoljaaGreatCm16
import Derived.Test.YtmjndpkfhdoljaaGreatCm11
import Derived.Test.YtmjndpkfhdoljaaGreatCm12
import Derived.Test.YtmjndpkfhdoljaaGreatCm34
import Derived.Test.YtmjndpkfhdoljaaGreatCm35
set_option maxHeartbeats 16000000
set_option maxRecDepth 100000
set_option linter.unusedVariables false
set_option linter.unusedSimpArgs false
namespace Go.Proofs.YtmjndpkfhdoljaaGreat
open Go.ChangeShapes Go.WideShapes Go.ChangeAt Go.RowKit
section
structure Aq (w : World) (b : Nat) (g : Ac) : Prop where
  lt : b < w.heap.size
  at_ : g.at w b 0
theorem Aq.of {w : World} {b : Nat} {g : Ac} (h : Ac.Bx w b g) : Aq w b g := ⟨h.lt, h.at_⟩
theorem Aq.new (w : World) (g : Ac) : Aq (w.alloc (.cells g.cells.toArray 31)) w.heap.size g := Aq.of (Ac.Bx.new w g)
theorem Aq.below {w w' : World} {b : Nat} {g : Ac} (h : Aq w b g) (hb : Below w.heap.size w w') : Aq w' b g := ⟨Nat.lt_of_lt_of_le h.lt hb.size, Ac.at_keep h.at_ fun i => hb.cell (p := ⟨b, i, none⟩) h.lt⟩
theorem Aq.got {w : World} {b : Nat} {g : Ac} (h : Aq w b g) : w.cell? ⟨b, 0, none⟩ = some (.int .i64 g.id) ∧ w.cell? ⟨b, 1, none⟩ = some (.int .i64 g.mem) ∧ w.cell? ⟨b, 2, none⟩ = some (.int .i64 g.kind) ∧ w.cell? ⟨b, 3, none⟩ = some (.slice g.cl g.clL g.clC) := by
  have := h.at_
  unfold Ac.at at this
  simpa only [Nat.zero_add] using this
theorem BindRes.zero {B : Nat} {w' : World} {e : Ending} {id mem kind E : Int} {L : List Nt} (h : BindRes B w' e id mem kind E L) (hE : E ≠ 0) : e = .returned (.tuple #[.agg #[.int .i64 0, .int .i64 0, .int .i64 0, .slice none 0 0], .int .i64 E]) := by
  rcases h with ⟨_, h⟩ | ⟨h, _⟩
  · exact h
  · exact absurd h hE
theorem BindRes.some {B : Nat} {w' : World} {e : Ending} {id mem kind : Int} {L : List Nt} (h : BindRes B w' e id mem kind 0 L) : ∃ A' c', e = .returned (.tuple #[.agg #[.int .i64 id, .int .i64 mem, .int .i64 kind, .slice A' L.length c'], .int .i64 0]) ∧ w'.ownsRow B 3 1 (.slice A' L.length c') L.length (rc Nt.cells L) := by
  rcases h with ⟨h, _⟩ | ⟨_, h⟩
  · exact absurd rfl h
  · exact h
end
section
def ahQ (x y : Ac) : Bool := decide (x.id < y.id)
def idQ (id : Int) (x : Ac) : Bool := x.id == id
def findQ (l : List Ac) (id : Int) : Ac := pickL (idQ id) Ac.zero l
def hasQ (l : List Ac) (id : Int) : Bool := (l.find? (idQ id)).isSome
def QRes (B : Nat) (w' : World) (e : Ending) (R : Int × List Ac) : Prop :=
  ∃ A' c', e = .returned (.tuple #[.slice A' R.2.length c', .int .i64 R.1]) ∧ w'.ownsRow B 31 4 (.slice A' R.2.length c') R.2.length (rc Ac.cells R.2)
theorem QRes.nil (B : Nat) (w' : World) (n : Int) : QRes B w' (.returned (.tuple #[.slice none 0 0, .int .i64 n])) (n, []) := ⟨none, 0, rfl, own_nil _ _ _⟩
def Deep (w : World) (l : List Ac) : Prop := ∀ g ∈ l, ∃ L : List Nt, g.clL = L.length ∧ L.length ≤ 20 ∧ Sl w g.cl (rc Nt.cells L)
theorem Deep.below {w w' : World} {l : List Ac} (h : Deep w l) (hb : Below w.heap.size w w') : Deep w' l := fun g hg => by
  obtain ⟨L, h1, h2, h3⟩ := h g hg
  exact ⟨L, h1, h2, h3.below hb⟩
def GoodA (w : World) (l : List Ac) : Prop := ∀ g ∈ l, ∃ L : List Nt, g.clL = L.length ∧ L.length ≤ 20 ∧ Sl w g.cl (rc Nt.cells L) ∧ okC g.id g.mem g.kind L
theorem GoodA.below {w w' : World} {l : List Ac} (h : GoodA w l) (hb : Below w.heap.size w w') : GoodA w' l := fun g hg => by
  obtain ⟨L, h1, h2, h3, h4⟩ := h g hg
  exact ⟨L, h1, h2, h3.below hb, h4⟩
end
section
def ltU (u v : Un) : Prop := u.ac < v.ac ∨ (u.ac = v.ac ∧ u.cl < v.cl)
instance (u v : Un) : Decidable (ltU u v) := by unfold ltU; infer_instance
end
section
structure Cn where
  id : Int
  mem : Int
  kind : Int
  L : List Nt
deriving DecidableEq
structure AcIs (w : World) (g : Ac) (c : Cn) : Prop where
  id : g.id = c.id
  mem : g.mem = c.mem
  kind : g.kind = c.kind
  len : g.clL = c.L.length
  sl : Sl w g.cl (rc Nt.cells c.L)
theorem AcIs.below {w w' : World} {g : Ac} {c : Cn} (h : AcIs w g c) (hb : Below w.heap.size w w') : AcIs w' g c := ⟨h.id, h.mem, h.kind, h.len, h.sl.below hb⟩
def Tab (w : World) (l : List Ac) (cs : List Cn) : Prop := l.length = cs.length ∧ ∀ i, (h : i < l.length) → (h2 : i < cs.length) → AcIs w l[i] cs[i]
theorem Tab.below {w w' : World} {l : List Ac} {cs : List Cn} (h : Tab w l cs) (hb : Below w.heap.size w w') : Tab w' l cs := ⟨h.1, fun i h1 h2 => (h.2 i h1 h2).below hb⟩
theorem Tab.nil (w : World) : Tab w [] [] := ⟨rfl, fun i h => by simp at h⟩
theorem Tab.cons {w : World} {g : Ac} {c : Cn} {l : List Ac} {cs : List Cn} : Tab w (g :: l) (c :: cs) ↔ AcIs w g c ∧ Tab w l cs := by
  constructor
  · rintro ⟨h1, h2⟩
    exact ⟨h2 0 (by simp) (by simp), by simpa using h1, fun i a b => h2 (i + 1) (by simpa using a) (by simpa using b)⟩
  · rintro ⟨h0, h1, h2⟩
    refine ⟨by simpa using h1, fun i a b => ?_⟩
    cases i with
    | zero => exact h0
    | succ i => exact h2 i (by simpa using a) (by simpa using b)
theorem Tab.app {w : World} {l : List Ac} {cs : List Cn} {g : Ac} {c : Cn} (h : Tab w l cs) (hg : AcIs w g c) : Tab w (l ++ [g]) (cs ++ [c]) := by
  refine ⟨by simp [h.1], fun i h1 h2 => ?_⟩
  have hl := h.1
  rcases Nat.lt_or_ge i l.length with hi | hi
  · rw [List.getElem_append_left hi, List.getElem_append_left (by omega)]; exact h.2 i hi (by omega)
  · have : i = l.length := by simp at h1; omega
    subst this
    simp [hl]
    exact hg
def ahC (x y : Cn) : Bool := decide (x.id < y.id)
theorem Tab.put {w : World} {g : Ac} {c : Cn} (hg : AcIs w g c) : ∀ {l : List Ac} {cs : List Cn}, Tab w l cs → Tab w (putR ahQ l g) (putR ahC cs c)
  | [], [], _ => Tab.cons.2 ⟨hg, Tab.nil w⟩
  | [], _ :: _, h => by have := h.1; simp at this
  | _ :: _, [], h => by have := h.1; simp at this
  | a :: l, d :: cs, h => by
    obtain ⟨h1, h2⟩ := Tab.cons.1 h
    have e1 : ahQ a g = ahC d c := by simp only [ahQ, ahC, h1.id, hg.id]
    have e2 : ahQ g a = ahC c d := by simp only [ahQ, ahC, h1.id, hg.id]
    unfold putR
    rw [e1, e2]
    split
    · exact Tab.cons.2 ⟨h1, Tab.put hg h2⟩
    · split
      · exact Tab.cons.2 ⟨hg, Tab.cons.2 ⟨h1, h2⟩⟩
      · exact Tab.cons.2 ⟨hg, h2⟩
theorem Tab.set {w : World} {l : List Ac} {cs : List Cn} {g : Ac} {c : Cn} (h : Tab w l cs) (hg : AcIs w g c) (k : Nat) : Tab w (l.set k g) (cs.set k c) := by
  refine ⟨by simp [h.1], fun i h1 h2 => ?_⟩
  rw [List.getElem_set, List.getElem_set]
  split
  · exact hg
  · exact h.2 i (by simpa using h1) (by simpa using h2)
def findC (cs : List Cn) (id : Int) : Option Cn := cs.find? fun c => c.id == id
theorem Tab.find {w : World} (id : Int) : ∀ {l : List Ac} {cs : List Cn}, Tab w l cs → (hasQ l id = false ∧ findC cs id = none) ∨ (∃ c, hasQ l id = true ∧ findC cs id = some c ∧ AcIs w (findQ l id) c ∧ c.id = id)
  | [], [], _ => .inl ⟨rfl, rfl⟩
  | [], _ :: _, h => by have := h.1; simp at this
  | _ :: _, [], h => by have := h.1; simp at this
  | a :: l, d :: cs, h => by
    obtain ⟨h1, h2⟩ := Tab.cons.1 h
    have e : idQ id a = (d.id == id) := by simp only [idQ, h1.id]
    by_cases hd : (d.id == id) = true
    · refine .inr ⟨d, ?_, ?_, ?_, by simpa using hd⟩
      · simp [hasQ, List.find?_cons, e, hd]
      · simp [findC, List.find?_cons, hd]
      · rw [show findQ (a :: l) id = a by simp [findQ, pickL, List.find?_cons, e, hd]]; exact h1
    · have hd' : (d.id == id) = false := by simpa using hd
      have e1 : hasQ (a :: l) id = hasQ l id := by simp [hasQ, List.find?_cons, e, hd']
      have e2 : findC (d :: cs) id = findC cs id := by simp [findC, List.find?_cons, hd']
      have e3 : findQ (a :: l) id = findQ l id := by simp [findQ, pickL, List.find?_cons, e, hd']
      rw [e1, e2, e3]
      exact Tab.find id h2
structure AcOwn (B : Nat) (w : World) (g : Ac) (c : Cn) : Prop where
  id : g.id = c.id
  mem : g.mem = c.mem
  kind : g.kind = c.kind
  len : g.clL = c.L.length
  own : w.ownsRow B 3 1 (.slice g.cl c.L.length g.clC) c.L.length (rc Nt.cells c.L)
theorem AcOwn.is {B : Nat} {w : World} {g : Ac} {c : Cn} (h : AcOwn B w g c) : AcIs w g c := ⟨h.id, h.mem, h.kind, h.len, Sl.of_own h.own⟩
theorem AcOwn.below {B : Nat} {w w' : World} {g : Ac} {c : Cn} (h : AcOwn B w g c) (hb : Below w.heap.size w w') : AcOwn B w' g c := ⟨h.id, h.mem, h.kind, h.len, own_below h.own hb⟩
theorem own_kept {w w' : World} {B B' : Nat} {v v' : Value} {n n' : Nat} {xs ys : List Value} (h : w.ownsRow B 3 1 v n xs) (ho : w.ownsRow B' 31 4 v' n' ys) (hg : w.grownBy w' v'.ownBlock) : w'.ownsRow B 3 1 v n xs := by
  refine h.kept hg ?_
  rcases h.2 with ⟨rfl, _⟩ | ⟨g, cap, cur, rfl, _, hh, _⟩
  · exact .inl rfl
  · right
    rcases ho.2 with ⟨rfl, _⟩ | ⟨g', cap', cur', rfl, _, hh', _⟩
    · simp [Value.ownBlock]
    · simp only [Value.ownBlock, ne_eq, Option.some.injEq]
      intro e
      subst e
      rw [hh] at hh'
      injection hh' with hh'
      injection hh' with _ e
      exact absurd e (by decide)
theorem AcOwn.kept {w w' : World} {B B' : Nat} {g : Ac} {c : Cn} {v' : Value} {n' : Nat} {ys : List Value} (h : AcOwn B w g c) (ho : w.ownsRow B' 31 4 v' n' ys) (hg : w.grownBy w' v'.ownBlock) : AcOwn B w' g c := ⟨h.id, h.mem, h.kind, h.len, own_kept h.own ho hg⟩
def OTab (B : Nat) (w : World) (l : List Ac) (cs : List Cn) : Prop := l.length = cs.length ∧ ∀ i, (h : i < l.length) → (h2 : i < cs.length) → AcOwn B w l[i] cs[i]
theorem OTab.tab {B : Nat} {w : World} {l : List Ac} {cs : List Cn} (h : OTab B w l cs) : Tab w l cs := ⟨h.1, fun i h1 h2 => (h.2 i h1 h2).is⟩
theorem OTab.below {B : Nat} {w w' : World} {l : List Ac} {cs : List Cn} (h : OTab B w l cs) (hb : Below w.heap.size w w') : OTab B w' l cs := ⟨h.1, fun i h1 h2 => (h.2 i h1 h2).below hb⟩
theorem OTab.kept {w w' : World} {B B' : Nat} {l : List Ac} {cs : List Cn} {v' : Value} {n' : Nat} {ys : List Value} (h : OTab B w l cs) (ho : w.ownsRow B' 31 4 v' n' ys) (hg : w.grownBy w' v'.ownBlock) : OTab B w' l cs := ⟨h.1, fun i h1 h2 => (h.2 i h1 h2).kept ho hg⟩
theorem OTab.app {B : Nat} {w : World} {l : List Ac} {cs : List Cn} {g : Ac} {c : Cn} (h : OTab B w l cs) (hg : AcOwn B w g c) : OTab B w (l ++ [g]) (cs ++ [c]) := by
  refine ⟨by simp [h.1], fun i h1 h2 => ?_⟩
  have hl := h.1
  rcases Nat.lt_or_ge i l.length with hi | hi
  · rw [List.getElem_append_left hi, List.getElem_append_left (by omega)]; exact h.2 i hi (by omega)
  · have : i = l.length := by simp at h1; omega
    subst this
    simp [hl]
    exact hg
end
end Go.Proofs.YtmjndpkfhdoljaaGreat
section
namespace Go.Proofs.YtmjndpkfhdoljaaGreat.Hq
open Go.ChangeShapes Go.WideShapes Go.ChangeAt Go.RowKit

theorem rd_ltrowH {w : World} {r : List Value} (h : Rd w (.cat (.int .i64) (.cat (.int .i64) (.cat (.int .i64) .nil))) r) : ∃ g : Lt, r = g.cells ∧ In64 g.qty := by
  obtain ⟨p, q, rfl, ⟨a, rfl, _⟩, ⟨p2, q2, rfl, ⟨b, rfl, _⟩, ⟨p3, q3, rfl, ⟨c, rfl, hc⟩, rfl⟩⟩⟩ := h
  exact ⟨⟨a, b, c⟩, rfl, bd_i64 hc⟩
def InH (w : World) (g : Hd) : Prop := ∃ L : List Lt, g.ltL = L.length ∧ L.length ≤ g.ltC ∧ g.ltC ≤ maxLen ∧ Sl w g.lt (rc Lt.cells L) ∧ ∀ y ∈ L, In64 y.qty
theorem rd_hold {w : World} {r : List Value} (h : Rd w (.cat (.cat (.int .i64) (.cat (.int .i64) .nil)) (.cat (.sl (.cat (.int .i64) (.cat (.int .i64) (.cat (.int .i64) .nil)))) .nil)) r) : ∃ g : Hd, r = g.cells ∧ InH w g := by
  obtain ⟨p, q, rfl, ⟨p1, q1, rfl, ⟨a, rfl, _⟩, ⟨p2, q2, rfl, ⟨c, rfl, _⟩, rfl⟩⟩, ⟨p3, q3, rfl, h4, rfl⟩⟩ := h
  obtain ⟨A, n, k, rows, rfl, h1, h2, h3, h5, h6⟩ := _root_.id h4
  obtain ⟨L, rfl, _, _, hs, hq⟩ := rd_rowsP (f := Lt.cells) (fun r => rd_ltrowH) h4
  exact ⟨⟨a, c, A, L.length, k⟩, rfl, L, rfl, h1, h2, hs, hq⟩
def GoodH (cs : List Hc) : Prop := (∀ g ∈ cs, g.L.length ≤ 20) ∧ ∀ g ∈ cs, ∀ y ∈ g.L, In64 y.qty
end Go.Proofs.YtmjndpkfhdoljaaGreat.Hq
end
namespace Go.Proofs.YtmjndpkfhdoljaaGreat
open Go.ChangeShapes Go.WideShapes Go.ChangeAt Go.RowKit
section
def GI9 (w : World) (l : List Iq) : Prop := ∀ g ∈ l, ∃ i : Ins, GI w g i ∧ i.mv.length ≤ 9
theorem GI9.below {w w' : World} {l : List Iq} (h : GI9 w l) (hb : Below w.heap.size w w') : GI9 w' l := fun g hg => by
  obtain ⟨i, hi, hl⟩ := h g hg
  exact ⟨i, hi.below hb, hl⟩
theorem GI9.tab {w : World} : ∀ {l : List Iq}, GI9 w l → ∃ is : List Ins, InTab w l is ∧ ∀ i ∈ is, i.mv.length ≤ 9
  | [], _ => ⟨[], InTab.nil w, fun i h => by cases h⟩
  | g :: l, h => by
    obtain ⟨is, ht, hl⟩ := GI9.tab (l := l) fun x hx => h x (List.mem_cons_of_mem _ hx)
    obtain ⟨i, hi, h9⟩ := h g List.mem_cons_self
    refine ⟨i :: is, InTab.cons hi ht, fun x hx => ?_⟩
    rcases List.mem_cons.1 hx with rfl | hx
    · exact h9
    · exact hl x hx
theorem rd_insrow {w : World} {r : List Value} (h : Rd w (.cat (.int .i64) (.cat (.int .i64) (.cat (.int .i64) (.cat (.int .i64) (.cat (.sl (.int .i64)) .nil))))) r) : ∃ g : Iq, r = g.cells ∧ ∃ i : Ins, GI w g i := by
  obtain ⟨x1, y1, rfl, ⟨n1, rfl, w1⟩, x2, y2, rfl, ⟨n2, rfl, w2⟩, x3, y3, rfl, ⟨n3, rfl, w3⟩, x4, y4, rfl, ⟨n4, rfl, w4⟩, x5, y5, rfl, h5, rfl⟩ := h
  obtain ⟨A, n, c, rows, rfl, r⟩ := _root_.id h5
  obtain ⟨l, hl, hc, hm, hs, hw⟩ := rd_ints h5
  exact ⟨⟨n1, n2, n3, n4, A, n, c⟩, rfl, ⟨n1, n2, n3, n4, l⟩, ⟨rfl, rfl, rfl, rfl, hl.symm, ⟨⟨by simp only; omega, hm⟩, hs, All64.ofI hw, bd_i64 w1, bd_i64 w2, bd_i64 w3, bd_i64 w4⟩⟩⟩
end
section
theorem InH.belowK {w w' : World} {g : Po} (h : InH w g) (hb : Below w.heap.size w w') : InH w' g := by
  obtain ⟨L, h1, h2, h3, h4, h5⟩ := h
  exact ⟨L, h1, h2, h3, h4.below hb, h5⟩
def InK (w : World) (g : Po) : Prop := (In64 g.ac ∧ In64 g.cl) ∧ InH w g
theorem InK.below {w w' : World} {g : Po} (h : InK w g) (hb : Below w.heap.size w w') : InK w' g := ⟨h.1, h.2.belowK hb⟩
theorem rd_posk {w : World} {r : List Value} (h : Rd w (.cat (.cat (.int .i64) (.cat (.int .i64) .nil)) (.cat (.sl (.cat (.int .i64) (.cat (.int .i64) .nil))) .nil)) r) : ∃ g : Po, r = g.cells ∧ InK w g := by
  obtain ⟨p, q, rfl, ⟨p1, q1, rfl, ⟨a, rfl, ha⟩, ⟨p2, q2, rfl, ⟨c, rfl, hc⟩, rfl⟩⟩, ⟨p3, q3, rfl, h4, rfl⟩⟩ := h
  obtain ⟨A, n, k, rows, rfl, h1, h2, h3, h5, h6⟩ := _root_.id h4
  obtain ⟨L, rfl, _, _, hs, hq⟩ := rd_rowsP (f := Lg.cells) (fun r => rd_ltrowH) h4
  exact ⟨⟨a, c, A, L.length, k⟩, rfl, ⟨bd_i64 ha, bd_i64 hc⟩, L, rfl, h1, h2, hs, hq⟩
def KeysH (cs : List Pc) : Prop := ∀ c ∈ cs, In64 c.ac ∧ In64 c.cl
def GIK (w : World) (l : List Iq) : Prop := ∀ g ∈ l, ∃ i : Ins, GI w g i ∧ i.mv.length ≤ 9 ∧ okB i = true
theorem GIK.below {w w' : World} {l : List Iq} (h : GIK w l) (hb : Below w.heap.size w w') : GIK w' l := fun g hg => by
  obtain ⟨i, hi, hl⟩ := h g hg
  exact ⟨i, hi.below hb, hl⟩
theorem GIK.tab {w : World} : ∀ {l : List Iq}, GIK w l → ∃ is : List Ins, InTab w l is ∧ ∀ i ∈ is, i.mv.length ≤ 9 ∧ okB i = true
  | [], _ => ⟨[], InTab.nil w, fun i h => by cases h⟩
  | g :: l, h => by
    obtain ⟨is, ht, hl⟩ := GIK.tab (l := l) fun x hx => h x (List.mem_cons_of_mem _ hx)
    obtain ⟨i, hi, h9⟩ := h g List.mem_cons_self
    refine ⟨i :: is, InTab.cons hi ht, fun x hx => ?_⟩
    rcases List.mem_cons.1 hx with rfl | hx
    · exact h9
    · exact hl x hx
end
section
def ZB (w : World) (g : Nat) : Prop := Bk w g #[.slice none 0 0, .slice none 0 0, .slice none 0 0, .slice none 0 0, .slice none 0 0] ∧ w.frozen? ⟨g, 0, none⟩ = false ∧ w.frozen? ⟨g, 1, none⟩ = false ∧ w.frozen? ⟨g, 2, none⟩ = false ∧ w.frozen? ⟨g, 3, none⟩ = false ∧ w.frozen? ⟨g, 4, none⟩ = false
theorem ZB.new (w : World) (t : TypeId) : ZB (w.alloc (.cells #[.slice none 0 0, .slice none 0 0, .slice none 0 0, .slice none 0 0, .slice none 0 0] t)) w.heap.size := ⟨Bk.new _ _ _, by simp, by simp, by simp, by simp, by simp⟩
theorem ZB.below {w w' : World} {g : Nat} (h : ZB w g) (hb : Below w.heap.size w w') : ZB w' g :=
  ⟨h.1.below hb, (hb.frozen (p := ⟨g, 0, none⟩) h.1.1).trans h.2.1, (hb.frozen (p := ⟨g, 1, none⟩) h.1.1).trans h.2.2.1, (hb.frozen (p := ⟨g, 2, none⟩) h.1.1).trans h.2.2.2.1, (hb.frozen (p := ⟨g, 3, none⟩) h.1.1).trans h.2.2.2.2.1, (hb.frozen (p := ⟨g, 4, none⟩) h.1.1).trans h.2.2.2.2.2⟩
theorem ZB.got {w : World} {g : Nat} (h : ZB w g) : g < w.heap.size ∧ (w.cell? ⟨g, 0, none⟩ = some (.slice none 0 0) ∧ w.cell? ⟨g, 1, none⟩ = some (.slice none 0 0) ∧ w.cell? ⟨g, 2, none⟩ = some (.slice none 0 0) ∧ w.cell? ⟨g, 3, none⟩ = some (.slice none 0 0) ∧ w.cell? ⟨g, 4, none⟩ = some (.slice none 0 0)) ∧ w.frozen? ⟨g, 0, none⟩ = false ∧ w.frozen? ⟨g, 1, none⟩ = false ∧ w.frozen? ⟨g, 2, none⟩ = false ∧ w.frozen? ⟨g, 3, none⟩ = false ∧ w.frozen? ⟨g, 4, none⟩ = false := ⟨h.1.1, ⟨h.1.2 0, h.1.2 1, h.1.2 2, h.1.2 3, h.1.2 4⟩, h.2⟩
theorem Bk.far27 {w : World} {b : Nat} {cs : Array Value} (h : Bk w b cs) {p : Addr} (hp : p.block ≠ b) (u : Value) : Bk (w.setCell p u) b cs := by
  refine ⟨by simpa using h.1, fun o => ?_⟩
  rw [cell_set, if_neg (fun e => hp (by rw [e]))]
  exact h.2 o
def HeadI (xs : List Value) : Prop := ∀ v, xs[0]? = some v → ∃ i, v = .int .i64 i
theorem headI_Fw (l : List Fw) : HeadI (rc Fw.cells l) := by
  intro v hv
  cases l with
  | nil => simp [rc] at hv
  | cons x r => rw [rc_cons] at hv; injection hv with hv; exact ⟨_, hv.symm⟩
theorem headI_Hd (l : List Hd) : HeadI (rc Hd.cells l) := by
  intro v hv
  cases l with
  | nil => simp [rc] at hv
  | cons x r => rw [rc_cons] at hv; injection hv with hv; exact ⟨_, hv.symm⟩
theorem headI_Lt (l : List Lt) : HeadI (rc Lt.cells l) := by
  intro v hv
  cases l with
  | nil => simp [rc] at hv
  | cons x r => rw [rc_cons] at hv; injection hv with hv; exact ⟨_, hv.symm⟩
end
section
def BN (w : World) (g : Nat) (s : Bool) (A : Option Addr) (n c : Nat) (z : Int) : Prop := BB w g s A n c ∧ BigAt w s A n c z
theorem BN.below {w w' : World} {g : Nat} {s : Bool} {A : Option Addr} {n c : Nat} {z : Int} (h : BN w g s A n c z) (hb : Below w.heap.size w w') : BN w' g s A n c z := ⟨h.1.below hb, h.2.below hb⟩
theorem BN.new {w : World} {s : Bool} {A : Option Addr} {n c : Nat} {z : Int} (h : BigAt w s A n c z) (t : TypeId) : BN (w.alloc (.cells #[.bool s, .slice A n c] t)) w.heap.size s A n c z := ⟨BB.new _ _ _ _ _ _, h.alloc _⟩
theorem BN.put {w : World} {g B : Nat} {s s' : Bool} {A A' : Option Addr} {n n' c c' : Nat} {z' : Int} (h : BB w g s A n c) (hz : BigAt w s' A' n' c' z') (hf : Fr B A' n') (hg : g < B) : BN ((w.setCell ⟨g, 0, none⟩ (.bool s')).setCell ⟨g, 1, none⟩ (.slice A' n' c')) g s' A' n' c' z' :=
  ⟨h.set2 s' A' n' c', (hz.far (p := ⟨g, 0, none⟩) (fun b o hA hn => by have := hf b o hA hn; show b ≠ g; omega) _).far (p := ⟨g, 1, none⟩) (fun b o hA hn => by have := hf b o hA hn; show b ≠ g; omega) _⟩
theorem BN.far {w : World} {g : Nat} {s : Bool} {A : Option Addr} {n c : Nat} {z : Int} (h : BN w g s A n c z) {w0 : World} (h0 : BN w0 g s A n c z) (hb : Below w0.heap.size w0 w) {p : Addr} (hp : w0.heap.size ≤ p.block) (v : Value) : BN (w.setCell p v) g s A n c z := h0.below (Below.setCell hb hp v)
end
section
theorem live27a : covR true [⟨1, 3, 1000⟩] [⟨1, 0, 10⟩] 50 = (77, 0) := by decide
theorem live27b : covR false [⟨1, 3, 1000⟩] [⟨1, 0, 10⟩] 0 = (30, 0) := by decide
theorem live27o : OkM [⟨1, 3, 1000⟩] := by intro g hg; rw [List.mem_singleton.1 hg]; decide
theorem lives27_any (w : World) : Calls Tryz.prog 8 #[] w fun e w' => e = .returned (.bool true) ∧ Below w.heap.size w w' := by
  have hB0 := since_alloc (Below.refl _ w) (.cells #[.int .i64 1, .int .i64 3, .int .i64 1000] 63)
  have r0 : Sl (w.alloc (.cells #[.int .i64 1, .int .i64 3, .int .i64 1000] 63)) (some ⟨w.heap.size, 0, none⟩) (rc Ax.cells [⟨1, 3, 1000⟩]) := Sl.new_ w (rc Ax.cells [⟨1, 3, 1000⟩]) 63
  have hp : ∀ g ∈ [(⟨1, 3, 1000⟩ : Ax)], In64 g.price := fun g hg => by rw [List.mem_singleton.1 hg]; show In64 3; unfold In64; omega
  have hq : ∀ g ∈ [(⟨1, 0, 10⟩ : Lt)], In64 g.qty := fun g hg => by rw [List.mem_singleton.1 hg]; show In64 10; unfold In64; omega
  have HV := Lib.hid (fun LA V h1 h2 => cvalue_any (some ⟨w.heap.size, 0, none⟩) 1 [⟨1, 3, 1000⟩] LA 1 [⟨1, 0, 10⟩] 50 V (by simp) (by simp) live27o hp hq (by unfold In64; omega) h1 h2)
  have HW := Lib.hid (fun LA V h1 h2 => cworth_any (some ⟨w.heap.size, 0, none⟩) 1 [⟨1, 3, 1000⟩] LA 1 [⟨1, 0, 10⟩] V (by simp) (by simp) live27o hp hq h1 h2)
  rw [live27a] at HV
  rw [live27b] at HW
  simp only [List.length_cons, List.length_nil] at HV HW
  have HS := Lib.hid r0
  clear r0 hp hq
  go_enter Tryz.func8, Tryz.ntmps8
  go_upto_region 2 with fail
  generalize hYY : w.alloc (.cells #[.int .i64 1, .int .i64 3, .int .i64 1000] 63) = Y at *
  clear hYY
  go_wp2_with fail
  refine (HV.out _ _ (HS.out.alloc _) (Sl.new_ Y (rc Lt.cells [⟨1, 0, 10⟩]) 33)).mono ?_
  rintro e w1 ⟨rfl, hb⟩
  have hb := since_step (since_alloc (Below.refl _ Y) (.cells #[.int .i64 1, .int .i64 0, .int .i64 10] 33)) hb
  have hB1 := since_step hB0 hb
  have HS := Lib.hid (HS.out.below hb)
  clear hb
  go_wp2_with fail
  refine (HW.out _ _ (HS.out.alloc _) (Sl.new_ w1 (rc Lt.cells [⟨1, 0, 10⟩]) 33)).mono ?_
  rintro e w2 ⟨rfl, hb⟩
  have hB2 := since_step (since_alloc hB1 _) hb
  go_wp2_with fail
  go_ret
  exact ⟨rfl, hB2⟩
theorem rd_axrow {w : World} {r : List Value} (h : Rd w (.cat (.int .i64) (.cat (.int .i64) (.cat (.int .i64) .nil))) r) : ∃ g : Ax, r = g.cells ∧ In64 g.id := by
  obtain ⟨p, q, rfl, ⟨a, rfl, ha⟩, ⟨p2, q2, rfl, ⟨b, rfl, _⟩, ⟨p3, q3, rfl, ⟨c, rfl, _⟩, rfl⟩⟩⟩ := h
  exact ⟨⟨a, b, c⟩, rfl, bd_i64 ha⟩
end
end Go.Proofs.YtmjndpkfhdoljaaGreat
