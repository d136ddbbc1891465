import Derived.Test.YtldnponbkhgijaaGL02
import Derived.Test.YtldnponbkhgijaaGL03
section
namespace Go.Proofs.Ytldnponbkhgijaa
open Go.ChangeShapes Go.WideShapes Go.ChangeAt Go.RowKit
set_option linter.unusedVariables false
set_option linter.unusedSimpArgs false

structure Ic where
  id : Int
  mult : Int
  price : Int
  nxt : Int
  L : List Sx
deriving DecidableEq
structure IqIs (w : World) (g : Iq) (c : Ic) : Prop where
  id : g.id = c.id
  mult : g.mult = c.mult
  price : g.price = c.price
  nxt : g.nxt = c.nxt
  len : g.mvL = c.L.length
  sl : Sl w g.mv (rc Sx.cells c.L)
theorem IqIs.below {w w' : World} {g : Iq} {c : Ic} (h : IqIs w g c) (hb : Below w.heap.size w w') : IqIs w' g c := ⟨h.id, h.mult, h.price, h.nxt, h.len, h.sl.below hb⟩
def IqTab (w : World) (l : List Iq) (cs : List Ic) : Prop := l.length = cs.length ∧ ∀ i, (h : i < l.length) → (h2 : i < cs.length) → IqIs w l[i] cs[i]
theorem IqTab.below {w w' : World} {l : List Iq} {cs : List Ic} (h : IqTab w l cs) (hb : Below w.heap.size w w') : IqTab w' l cs := ⟨h.1, fun i h1 h2 => (h.2 i h1 h2).below hb⟩
theorem IqTab.nil (w : World) : IqTab w [] [] := ⟨rfl, fun i h => by simp at h⟩
theorem IqTab.cons {w : World} {g : Iq} {c : Ic} {l : List Iq} {cs : List Ic} : IqTab w (g :: l) (c :: cs) ↔ IqIs w g c ∧ IqTab w l cs := by
  constructor
  · rintro ⟨h1, h2⟩
    exact ⟨h2 0 (by simp) (by simp), by simpa using h1, fun i a b => h2 (i + 1) (by simpa using a) (by simpa using b)⟩
  · rintro ⟨h0, h1, h2⟩
    refine ⟨by simpa using h1, fun i a b => ?_⟩
    cases i with
    | zero => exact h0
    | succ i => exact h2 i (by simpa using a) (by simpa using b)
theorem IqTab.app {w : World} {l : List Iq} {cs : List Ic} {g : Iq} {c : Ic} (h : IqTab w l cs) (hg : IqIs w g c) : IqTab w (l ++ [g]) (cs ++ [c]) := by
  refine ⟨by simp [h.1], fun i h1 h2 => ?_⟩
  have hl := h.1
  rcases Nat.lt_or_ge i l.length with hi | hi
  · rw [List.getElem_append_left hi, List.getElem_append_left (by omega)]; exact h.2 i hi (by omega)
  · have : i = l.length := by simp at h1; omega
    subst this
    simp [hl]
    exact hg
theorem IqTab.append {w : World} : ∀ {l m : List Iq} {cs ds : List Ic}, IqTab w l cs → IqTab w m ds → IqTab w (l ++ m) (cs ++ ds)
  | [], m, [], ds, _, h => h
  | [], _, _ :: _, _, h, _ => by have := h.1; simp at this
  | _ :: _, _, [], _, h, _ => by have := h.1; simp at this
  | a :: l, m, d :: cs, ds, h, k => by
    obtain ⟨h1, h2⟩ := IqTab.cons.1 h
    exact IqTab.cons.2 ⟨h1, IqTab.append h2 k⟩
theorem IqTab.take {w : World} {l : List Iq} {cs : List Ic} (h : IqTab w l cs) (k : Nat) : IqTab w (l.take k) (cs.take k) := by
  refine ⟨by simp [h.1], fun i h1 h2 => ?_⟩
  rw [List.getElem_take, List.getElem_take]
  exact h.2 i (by simp at h1; omega) (by simp at h2; omega)
theorem IqTab.drop {w : World} {l : List Iq} {cs : List Ic} (h : IqTab w l cs) (k : Nat) : IqTab w (l.drop k) (cs.drop k) := by
  refine ⟨by simp [h.1], fun i h1 h2 => ?_⟩
  rw [List.getElem_drop, List.getElem_drop]
  exact h.2 _ (by simp at h1; omega) (by simp at h2; omega)
theorem IqTab.filter {w : World} {p : Iq → Bool} {q : Ic → Bool} (hpq : ∀ g c, IqIs w g c → p g = q c) : ∀ {l : List Iq} {cs : List Ic}, IqTab w l cs → IqTab w (l.filter p) (cs.filter q)
  | [], [], _ => IqTab.nil w
  | [], _ :: _, h => by have := h.1; simp at this
  | _ :: _, [], h => by have := h.1; simp at this
  | a :: l, d :: cs, h => by
    obtain ⟨h1, h2⟩ := IqTab.cons.1 h
    rw [List.filter_cons, List.filter_cons, hpq a d h1]
    split
    · exact IqTab.cons.2 ⟨h1, IqTab.filter hpq h2⟩
    · exact IqTab.filter hpq h2
theorem IqTab.put {w : World} {g : Iq} {c : Ic} {ah : Iq → Iq → Bool} {ac : Ic → Ic → Bool} (hah : ∀ g c g' c', IqIs w g c → IqIs w g' c' → ah g g' = ac c c') (hg : IqIs w g c) : ∀ {l : List Iq} {cs : List Ic}, IqTab w l cs → IqTab w (putR ah l g) (putR ac cs c)
  | [], [], _ => IqTab.cons.2 ⟨hg, IqTab.nil w⟩
  | [], _ :: _, h => by have := h.1; simp at this
  | _ :: _, [], h => by have := h.1; simp at this
  | a :: l, d :: cs, h => by
    obtain ⟨h1, h2⟩ := IqTab.cons.1 h
    unfold putR
    rw [hah a d g c h1 hg, hah g c a d hg h1]
    split
    · exact IqTab.cons.2 ⟨h1, IqTab.put hah hg h2⟩
    · split
      · exact IqTab.cons.2 ⟨hg, IqTab.cons.2 ⟨h1, h2⟩⟩
      · exact IqTab.cons.2 ⟨hg, h2⟩
theorem IqTab.set {w : World} {l : List Iq} {cs : List Ic} {g : Iq} {c : Ic} (h : IqTab w l cs) (hg : IqIs w g c) (k : Nat) : IqTab w (l.set k g) (cs.set k c) := by
  refine ⟨by simp [h.1], fun i h1 h2 => ?_⟩
  rw [List.getElem_set, List.getElem_set]
  split
  · exact hg
  · exact h.2 i (by simpa using h1) (by simpa using h2)
theorem IqTab.find {w : World} {p : Iq → Bool} {q : Ic → Bool} (hpq : ∀ g c, IqIs w g c → p g = q c) : ∀ {l : List Iq} {cs : List Ic}, IqTab w l cs → (l.find? p = none ∧ cs.find? q = none) ∨ (∃ g c, l.find? p = some g ∧ cs.find? q = some c ∧ IqIs w g c)
  | [], [], _ => .inl ⟨rfl, rfl⟩
  | [], _ :: _, h => by have := h.1; simp at this
  | _ :: _, [], h => by have := h.1; simp at this
  | a :: l, d :: cs, h => by
    obtain ⟨h1, h2⟩ := IqTab.cons.1 h
    rw [List.find?_cons, List.find?_cons, hpq a d h1]
    cases q d with
    | true => exact .inr ⟨a, d, rfl, rfl, h1⟩
    | false => exact IqTab.find hpq h2
structure IqOwn (B : Nat) (w : World) (g : Iq) (c : Ic) : Prop where
  id : g.id = c.id
  mult : g.mult = c.mult
  price : g.price = c.price
  nxt : g.nxt = c.nxt
  len : g.mvL = c.L.length
  own : w.ownsRow B 2 1 (.slice g.mv c.L.length g.mvC) c.L.length (rc Sx.cells c.L)
theorem IqOwn.is {B : Nat} {w : World} {g : Iq} {c : Ic} (h : IqOwn B w g c) : IqIs w g c := ⟨h.id, h.mult, h.price, h.nxt, h.len, Sl.of_own h.own⟩
theorem IqOwn.below {B : Nat} {w w' : World} {g : Iq} {c : Ic} (h : IqOwn B w g c) (hb : Below w.heap.size w w') : IqOwn B w' g c := ⟨h.id, h.mult, h.price, h.nxt, h.len, own_below h.own hb⟩
theorem own_kept_iq {w w' : World} {B B' : Nat} {v v' : Value} {n n' : Nat} {xs ys : List Value} (h : w.ownsRow B 2 1 v n xs) (ho : w.ownsRow B' 153 5 v' n' ys) (hg : w.grownBy w' v'.ownBlock) : w'.ownsRow B 2 1 v n xs := own_kept_types (by decide) h ho hg
theorem IqOwn.kept {w w' : World} {B B' : Nat} {g : Iq} {c : Ic} {v' : Value} {n' : Nat} {ys : List Value} (h : IqOwn B w g c) (ho : w.ownsRow B' 153 5 v' n' ys) (hg : w.grownBy w' v'.ownBlock) : IqOwn B w' g c := ⟨h.id, h.mult, h.price, h.nxt, h.len, own_kept_iq h.own ho hg⟩
def IqOTab (B : Nat) (w : World) (l : List Iq) (cs : List Ic) : Prop := l.length = cs.length ∧ ∀ i, (h : i < l.length) → (h2 : i < cs.length) → IqOwn B w l[i] cs[i]
theorem IqOTab.tab {B : Nat} {w : World} {l : List Iq} {cs : List Ic} (h : IqOTab B w l cs) : IqTab w l cs := ⟨h.1, fun i h1 h2 => (h.2 i h1 h2).is⟩
theorem IqOTab.below {B : Nat} {w w' : World} {l : List Iq} {cs : List Ic} (h : IqOTab B w l cs) (hb : Below w.heap.size w w') : IqOTab B w' l cs := ⟨h.1, fun i h1 h2 => (h.2 i h1 h2).below hb⟩
theorem IqOTab.kept {w w' : World} {B B' : Nat} {l : List Iq} {cs : List Ic} {v' : Value} {n' : Nat} {ys : List Value} (h : IqOTab B w l cs) (ho : w.ownsRow B' 153 5 v' n' ys) (hg : w.grownBy w' v'.ownBlock) : IqOTab B w' l cs := ⟨h.1, fun i h1 h2 => (h.2 i h1 h2).kept ho hg⟩
theorem IqOTab.app {B : Nat} {w : World} {l : List Iq} {cs : List Ic} {g : Iq} {c : Ic} (h : IqOTab B w l cs) (hg : IqOwn B w g c) : IqOTab B w (l ++ [g]) (cs ++ [c]) := by
  refine ⟨by simp [h.1], fun i h1 h2 => ?_⟩
  have hl := h.1
  rcases Nat.lt_or_ge i l.length with hi | hi
  · rw [List.getElem_append_left hi, List.getElem_append_left (by omega)]; exact h.2 i hi (by omega)
  · have : i = l.length := by simp at h1; omega
    subst this
    simp [hl]
    exact hg
structure BzIq (w : World) (b : Nat) : Prop where
  bk : Bk w b #[.int .i64 0, .int .i64 0, .int .i64 0, .int .i64 0, .slice none 0 0]
  fz : ∀ i, w.frozen? ⟨b, i, none⟩ = false
theorem BzIq.new (w : World) : BzIq (w.alloc (.cells #[.int .i64 0, .int .i64 0, .int .i64 0, .int .i64 0, .slice none 0 0] 153)) w.heap.size := ⟨Bk.new w _ _, fun i => by simp⟩
theorem BzIq.below {w w' : World} {b : Nat} (h : BzIq w b) (hb : Below w.heap.size w w') : BzIq w' b := ⟨h.bk.below hb, fun i => by rw [hb.frozen (p := ⟨b, i, none⟩) h.bk.1]; exact h.fz i⟩
theorem BzIq.got {w : World} {b : Nat} (h : BzIq w b) : w.cell? ⟨b, 0, none⟩ = some (.int .i64 0) ∧ w.cell? ⟨b, 1, none⟩ = some (.int .i64 0) ∧ w.cell? ⟨b, 2, none⟩ = some (.int .i64 0) ∧ w.cell? ⟨b, 3, none⟩ = some (.int .i64 0) ∧ w.cell? ⟨b, 4, none⟩ = some (.slice none 0 0) := by
  have h1 := h.bk.2
  exact ⟨h1 0, h1 1, h1 2, h1 3, h1 4⟩
structure AfIq (w : World) (b : Nat) (g : Iq) : Prop where
  bx : Iq.Bx w b g
  fz : ∀ i, w.frozen? ⟨b, i, none⟩ = false
theorem AfIq.below {w w' : World} {b : Nat} {g : Iq} (h : AfIq w b g) (hb : Below w.heap.size w w') : AfIq w' b g := ⟨h.bx.below hb, fun i => by rw [hb.frozen (p := ⟨b, i, none⟩) h.bx.lt]; exact h.fz i⟩
set_option maxHeartbeats 4000000 in
set_option maxRecDepth 100000 in
theorem dup1_iq (id : Int) (mult : Int) (price : Int) (nxt : Int) (A : Option Addr) (cap : Nat) (L : List Sx) (w : World) (hl : L.length ≤ 900000) (hs : Sl w A (rc Sx.cells L)) :
    Calls Try.prog 165 #[.agg #[.int .i64 id, .int .i64 mult, .int .i64 price, .int .i64 nxt, .slice A L.length cap]] w fun e w' => (∃ A' c', e = .returned (.agg #[.int .i64 id, .int .i64 mult, .int .i64 price, .int .i64 nxt, .slice A' L.length c']) ∧ w'.ownsRow w.heap.size 2 1 (.slice A' L.length c') L.length (rc Sx.cells L)) ∧ Below w.heap.size w w' := by
  have hB0 := since_alloc (since_alloc (Below.refl _ w) (.cells #[.int .i64 id, .int .i64 mult, .int .i64 price, .int .i64 nxt, .slice A L.length cap] 153)) (.cells #[.int .i64 0, .int .i64 0, .int .i64 0, .int .i64 0, .slice none 0 0] 153)
  have hV0 : AfIq ((w.alloc (.cells #[.int .i64 id, .int .i64 mult, .int .i64 price, .int .i64 nxt, .slice A L.length cap] 153)).alloc (.cells #[.int .i64 0, .int .i64 0, .int .i64 0, .int .i64 0, .slice none 0 0] 153)) w.heap.size ⟨id, mult, price, nxt, A, L.length, cap⟩ := ⟨(Iq.Bx.new w ⟨id, mult, price, nxt, A, L.length, cap⟩).below ((Below.refl _ _).alloc (Nat.le_refl _) (.cells #[.int .i64 0, .int .i64 0, .int .i64 0, .int .i64 0, .slice none 0 0] 153)), fun i => by simp⟩
  have hZ0 : BzIq ((w.alloc (.cells #[.int .i64 id, .int .i64 mult, .int .i64 price, .int .i64 nxt, .slice A L.length cap] 153)).alloc (.cells #[.int .i64 0, .int .i64 0, .int .i64 0, .int .i64 0, .slice none 0 0] 153)) (w.heap.size + 1) := by have h := BzIq.new (w.alloc (.cells #[.int .i64 id, .int .i64 mult, .int .i64 price, .int .i64 nxt, .slice A L.length cap] 153)); rw [World.size_alloc] at h; exact h
  have hs0 := (hs.alloc (.cells #[.int .i64 id, .int .i64 mult, .int .i64 price, .int .i64 nxt, .slice A L.length cap] 153)).alloc (.cells #[.int .i64 0, .int .i64 0, .int .i64 0, .int .i64 0, .slice none 0 0] 153)
  clear hs
  go_enter Try.func165, Try.ntmps165
  go_upto_region 1 with fail
  generalize hWW : (w.alloc (.cells #[.int .i64 id, .int .i64 mult, .int .i64 price, .int .i64 nxt, .slice A L.length cap] 153)).alloc (.cells #[.int .i64 0, .int .i64 0, .int .i64 0, .int .i64 0, .slice none 0 0] 153) = w0 at *
  clear hWW
  have hcs := @cell_set
  obtain ⟨q0, q1, q2, q3, q4⟩ := (hV0.bx).got
  simp only at q0 q1 q2 q3 q4
  obtain ⟨z0, z1, z2, z3, z4⟩ := hZ0.got
  have fq := hV0.fz
  have fz := hZ0.fz
  have lq := hV0.bx.lt
  have lz := hZ0.bk.1
  have hzl := hZ0.bk.1
  go_wp2_with fail
  refine (clone_sx A cap L _ (by omega) hs0).mono ?_
  rintro e w1 ⟨⟨A1, c1, rfl, hown⟩, hb⟩
  have hV1 := hV0.below hb
  have hZ1 := hZ0.below hb
  have hB1 := since_step hB0 hb
  clear hb q0 q1 q2 q3 q4 z0 z1 z2 z3 z4 fq fz lq lz
  obtain ⟨q0, q1, q2, q3, q4⟩ := (hV1.bx).got
  simp only at q0 q1 q2 q3 q4
  obtain ⟨z0, z1, z2, z3, z4⟩ := hZ1.got
  have fq := hV1.fz
  have fz := hZ1.fz
  have lq := hV1.bx.lt
  have lz := hZ1.bk.1
  go_wp2_with fail
  refine bodyPost_ret (v := .agg #[.int .i64 id, .int .i64 mult, .int .i64 price, .int .i64 nxt, .slice A1 L.length c1]) ?_ rfl ⟨⟨A1, c1, rfl, own_base ?_ hB0.size⟩, ?_⟩
  · simp [results, Try.results165, go_sem, z0, z1, z2, z3, z4, q0, q1, q2, q3, q4, fz, fq, hcs]
  · repeat' (first | with_reducible exact hown | with_reducible refine own_setFar' ?_ ?_ _)
    all_goals first | (simp; done) | (simp; omega)
  · repeat' (first | with_reducible exact hB1 | with_reducible refine Below.setCell ?_ ?_ _ | with_reducible refine Below.alloc ?_ ?_ _)
    all_goals first | (simp; done) | (simp; omega)
end Go.Proofs.Ytldnponbkhgijaa
end
