import Derived.Test.YtahdmomadbbhoaaGreatDk03
import Derived.IntWalk
import Derived.Laws.Bits64
import Derived.Laws.BitsAllLaws
import Derived.Laws.Externs
section
namespace Go.Proofs.YtahdmomadbbhoaaGreat
open Go.ChangeShapes Go.WideShapes Go.ChangeAt Go.RowKit
set_option linter.unusedVariables false
set_option linter.unusedSimpArgs false

structure Ic where
  id : Int
  mult : Int
  price : Int
  nxt : Int
  L : List Sx
deriving DecidableEq
structure IqIs (w : World) (g : Iq) (c : Ic) : Prop where
  id : g.id = c.id
  mult : g.mult = c.mult
  price : g.price = c.price
  nxt : g.nxt = c.nxt
  len : g.mvL = c.L.length
  sl : Sl w g.mv (rc Sx.cells c.L)
theorem IqIs.below {w w' : World} {g : Iq} {c : Ic} (h : IqIs w g c) (hb : Below w.heap.size w w') : IqIs w' g c := ⟨h.id, h.mult, h.price, h.nxt, h.len, h.sl.below hb⟩
theorem IqIs.eq {w : World} {g : Iq} {c : Ic} (h : IqIs w g c) : g = ⟨c.id, c.mult, c.price, c.nxt, g.mv, c.L.length, g.mvC⟩ := by
  obtain ⟨a0, a1, a2, a3, e, f, k⟩ := g
  obtain ⟨h0, h1, h2, h3, h9, _⟩ := h
  simp only at h0 h1 h2 h3 h9
  subst h0; subst h1; subst h2; subst h3; subst h9; rfl
def IqTab (w : World) (l : List Iq) (cs : List Ic) : Prop := l.length = cs.length ∧ ∀ i, (h : i < l.length) → (h2 : i < cs.length) → IqIs w l[i] cs[i]
theorem IqTab.below {w w' : World} {l : List Iq} {cs : List Ic} (h : IqTab w l cs) (hb : Below w.heap.size w w') : IqTab w' l cs := ⟨h.1, fun i h1 h2 => (h.2 i h1 h2).below hb⟩
theorem IqTab.nil (w : World) : IqTab w [] [] := ⟨rfl, fun i h => by simp at h⟩
theorem IqTab.cons {w : World} {g : Iq} {c : Ic} {l : List Iq} {cs : List Ic} : IqTab w (g :: l) (c :: cs) ↔ IqIs w g c ∧ IqTab w l cs := by
  constructor
  · rintro ⟨h1, h2⟩
    exact ⟨h2 0 (by simp) (by simp), by simpa using h1, fun i a b => h2 (i + 1) (by simpa using a) (by simpa using b)⟩
  · rintro ⟨h0, h1, h2⟩
    refine ⟨by simpa using h1, fun i a b => ?_⟩
    cases i with
    | zero => exact h0
    | succ i => exact h2 i (by simpa using a) (by simpa using b)
theorem IqTab.app {w : World} {l : List Iq} {cs : List Ic} {g : Iq} {c : Ic} (h : IqTab w l cs) (hg : IqIs w g c) : IqTab w (l ++ [g]) (cs ++ [c]) := by
  refine ⟨by simp [h.1], fun i h1 h2 => ?_⟩
  have hl := h.1
  rcases Nat.lt_or_ge i l.length with hi | hi
  · rw [List.getElem_append_left hi, List.getElem_append_left (by omega)]; exact h.2 i hi (by omega)
  · have : i = l.length := by simp at h1; omega
    subst this
    simp [hl]
    exact hg
theorem IqTab.append {w : World} : ∀ {l m : List Iq} {cs ds : List Ic}, IqTab w l cs → IqTab w m ds → IqTab w (l ++ m) (cs ++ ds)
  | [], m, [], ds, _, h => h
  | [], _, _ :: _, _, h, _ => by have := h.1; simp at this
  | _ :: _, _, [], _, h, _ => by have := h.1; simp at this
  | a :: l, m, d :: cs, ds, h, k => by
    obtain ⟨h1, h2⟩ := IqTab.cons.1 h
    exact IqTab.cons.2 ⟨h1, IqTab.append h2 k⟩
theorem IqTab.take {w : World} {l : List Iq} {cs : List Ic} (h : IqTab w l cs) (k : Nat) : IqTab w (l.take k) (cs.take k) := by
  refine ⟨by simp [h.1], fun i h1 h2 => ?_⟩
  rw [List.getElem_take, List.getElem_take]
  exact h.2 i (by simp at h1; omega) (by simp at h2; omega)
theorem IqTab.drop {w : World} {l : List Iq} {cs : List Ic} (h : IqTab w l cs) (k : Nat) : IqTab w (l.drop k) (cs.drop k) := by
  refine ⟨by simp [h.1], fun i h1 h2 => ?_⟩
  rw [List.getElem_drop, List.getElem_drop]
  exact h.2 _ (by simp at h1; omega) (by simp at h2; omega)
theorem IqTab.filter {w : World} {p : Iq → Bool} {q : Ic → Bool} (hpq : ∀ g c, IqIs w g c → p g = q c) : ∀ {l : List Iq} {cs : List Ic}, IqTab w l cs → IqTab w (l.filter p) (cs.filter q)
  | [], [], _ => IqTab.nil w
  | [], _ :: _, h => by have := h.1; simp at this
  | _ :: _, [], h => by have := h.1; simp at this
  | a :: l, d :: cs, h => by
    obtain ⟨h1, h2⟩ := IqTab.cons.1 h
    rw [List.filter_cons, List.filter_cons, hpq a d h1]
    split
    · exact IqTab.cons.2 ⟨h1, IqTab.filter hpq h2⟩
    · exact IqTab.filter hpq h2
theorem IqTab.put {w : World} {g : Iq} {c : Ic} {ah : Iq → Iq → Bool} {ac : Ic → Ic → Bool} (hah : ∀ g c g' c', IqIs w g c → IqIs w g' c' → ah g g' = ac c c') (hg : IqIs w g c) : ∀ {l : List Iq} {cs : List Ic}, IqTab w l cs → IqTab w (putR ah l g) (putR ac cs c)
  | [], [], _ => IqTab.cons.2 ⟨hg, IqTab.nil w⟩
  | [], _ :: _, h => by have := h.1; simp at this
  | _ :: _, [], h => by have := h.1; simp at this
  | a :: l, d :: cs, h => by
    obtain ⟨h1, h2⟩ := IqTab.cons.1 h
    unfold putR
    rw [hah a d g c h1 hg, hah g c a d hg h1]
    split
    · exact IqTab.cons.2 ⟨h1, IqTab.put hah hg h2⟩
    · split
      · exact IqTab.cons.2 ⟨hg, IqTab.cons.2 ⟨h1, h2⟩⟩
      · exact IqTab.cons.2 ⟨hg, h2⟩
theorem IqTab.set {w : World} {l : List Iq} {cs : List Ic} {g : Iq} {c : Ic} (h : IqTab w l cs) (hg : IqIs w g c) (k : Nat) : IqTab w (l.set k g) (cs.set k c) := by
  refine ⟨by simp [h.1], fun i h1 h2 => ?_⟩
  rw [List.getElem_set, List.getElem_set]
  split
  · exact hg
  · exact h.2 i (by simpa using h1) (by simpa using h2)
theorem IqTab.find {w : World} {p : Iq → Bool} {q : Ic → Bool} (hpq : ∀ g c, IqIs w g c → p g = q c) : ∀ {l : List Iq} {cs : List Ic}, IqTab w l cs → (l.find? p = none ∧ cs.find? q = none) ∨ (∃ g c, l.find? p = some g ∧ cs.find? q = some c ∧ IqIs w g c)
  | [], [], _ => .inl ⟨rfl, rfl⟩
  | [], _ :: _, h => by have := h.1; simp at this
  | _ :: _, [], h => by have := h.1; simp at this
  | a :: l, d :: cs, h => by
    obtain ⟨h1, h2⟩ := IqTab.cons.1 h
    rw [List.find?_cons, List.find?_cons, hpq a d h1]
    cases q d with
    | true => exact .inr ⟨a, d, rfl, rfl, h1⟩
    | false => exact IqTab.find hpq h2
theorem IqTab.rising {w : World} {ah : Iq → Iq → Bool} {ac : Ic → Ic → Bool} (hah : ∀ g c g' c', IqIs w g c → IqIs w g' c' → ah g g' = ac c c') : ∀ {l : List Iq} {cs : List Ic}, IqTab w l cs → risingL ah l = risingL ac cs
  | [], [], _ => rfl
  | [], _ :: _, h => by have := h.1; simp at this
  | _ :: _, [], h => by have := h.1; simp at this
  | [a], [d], h => rfl
  | [a], _ :: _ :: _, h => by have := h.1; simp at this
  | _ :: _ :: _, [d], h => by have := h.1; simp at this
  | a :: b :: l, d :: e :: cs, h => by
    obtain ⟨h1, h2⟩ := IqTab.cons.1 h
    obtain ⟨h3, h4⟩ := IqTab.cons.1 h2
    simp only [risingL]
    rw [hah a d b e h1 h3, IqTab.rising hah h2]
structure IqOwn (B : Nat) (w : World) (g : Iq) (c : Ic) : Prop where
  id : g.id = c.id
  mult : g.mult = c.mult
  price : g.price = c.price
  nxt : g.nxt = c.nxt
  len : g.mvL = c.L.length
  own : w.ownsRow B 2 1 (.slice g.mv c.L.length g.mvC) c.L.length (rc Sx.cells c.L)
theorem IqOwn.is {B : Nat} {w : World} {g : Iq} {c : Ic} (h : IqOwn B w g c) : IqIs w g c := ⟨h.id, h.mult, h.price, h.nxt, h.len, Sl.of_own h.own⟩
theorem IqOwn.below {B : Nat} {w w' : World} {g : Iq} {c : Ic} (h : IqOwn B w g c) (hb : Below w.heap.size w w') : IqOwn B w' g c := ⟨h.id, h.mult, h.price, h.nxt, h.len, own_below h.own hb⟩
theorem own_kept_iq {w w' : World} {B B' : Nat} {v v' : Value} {n n' : Nat} {xs ys : List Value} (h : w.ownsRow B 2 1 v n xs) (ho : w.ownsRow B' 26 5 v' n' ys) (hg : w.grownBy w' v'.ownBlock) : w'.ownsRow B 2 1 v n xs := own_kept_types (by decide) h ho hg
theorem IqOwn.kept {w w' : World} {B B' : Nat} {g : Iq} {c : Ic} {v' : Value} {n' : Nat} {ys : List Value} (h : IqOwn B w g c) (ho : w.ownsRow B' 26 5 v' n' ys) (hg : w.grownBy w' v'.ownBlock) : IqOwn B w' g c := ⟨h.id, h.mult, h.price, h.nxt, h.len, own_kept_iq h.own ho hg⟩
def IqOTab (B : Nat) (w : World) (l : List Iq) (cs : List Ic) : Prop := l.length = cs.length ∧ ∀ i, (h : i < l.length) → (h2 : i < cs.length) → IqOwn B w l[i] cs[i]
theorem IqOTab.tab {B : Nat} {w : World} {l : List Iq} {cs : List Ic} (h : IqOTab B w l cs) : IqTab w l cs := ⟨h.1, fun i h1 h2 => (h.2 i h1 h2).is⟩
theorem IqOTab.below {B : Nat} {w w' : World} {l : List Iq} {cs : List Ic} (h : IqOTab B w l cs) (hb : Below w.heap.size w w') : IqOTab B w' l cs := ⟨h.1, fun i h1 h2 => (h.2 i h1 h2).below hb⟩
theorem IqOTab.kept {w w' : World} {B B' : Nat} {l : List Iq} {cs : List Ic} {v' : Value} {n' : Nat} {ys : List Value} (h : IqOTab B w l cs) (ho : w.ownsRow B' 26 5 v' n' ys) (hg : w.grownBy w' v'.ownBlock) : IqOTab B w' l cs := ⟨h.1, fun i h1 h2 => (h.2 i h1 h2).kept ho hg⟩
theorem IqOTab.app {B : Nat} {w : World} {l : List Iq} {cs : List Ic} {g : Iq} {c : Ic} (h : IqOTab B w l cs) (hg : IqOwn B w g c) : IqOTab B w (l ++ [g]) (cs ++ [c]) := by
  refine ⟨by simp [h.1], fun i h1 h2 => ?_⟩
  have hl := h.1
  rcases Nat.lt_or_ge i l.length with hi | hi
  · rw [List.getElem_append_left hi, List.getElem_append_left (by omega)]; exact h.2 i hi (by omega)
  · have : i = l.length := by simp at h1; omega
    subst this
    simp [hl]
    exact hg
structure BzIq (w : World) (b : Nat) : Prop where
  bk : Bk w b #[.int .i64 0, .int .i64 0, .int .i64 0, .int .i64 0, .slice none 0 0]
  fz : ∀ i, w.frozen? ⟨b, i, none⟩ = false
theorem BzIq.new (w : World) : BzIq (w.alloc (.cells #[.int .i64 0, .int .i64 0, .int .i64 0, .int .i64 0, .slice none 0 0] 26)) w.heap.size := ⟨Bk.new w _ _, fun i => by simp⟩
theorem BzIq.below {w w' : World} {b : Nat} (h : BzIq w b) (hb : Below w.heap.size w w') : BzIq w' b := ⟨h.bk.below hb, fun i => by rw [hb.frozen (p := ⟨b, i, none⟩) h.bk.1]; exact h.fz i⟩
theorem BzIq.got {w : World} {b : Nat} (h : BzIq w b) : w.cell? ⟨b, 0, none⟩ = some (.int .i64 0) ∧ w.cell? ⟨b, 1, none⟩ = some (.int .i64 0) ∧ w.cell? ⟨b, 2, none⟩ = some (.int .i64 0) ∧ w.cell? ⟨b, 3, none⟩ = some (.int .i64 0) ∧ w.cell? ⟨b, 4, none⟩ = some (.slice none 0 0) := by
  have h1 := h.bk.2
  exact ⟨h1 0, h1 1, h1 2, h1 3, h1 4⟩
structure AfIq (w : World) (b : Nat) (g : Iq) : Prop where
  bx : Iq.Bx w b g
  fz : ∀ i, w.frozen? ⟨b, i, none⟩ = false
theorem AfIq.below {w w' : World} {b : Nat} {g : Iq} (h : AfIq w b g) (hb : Below w.heap.size w w') : AfIq w' b g := ⟨h.bx.below hb, fun i => by rw [hb.frozen (p := ⟨b, i, none⟩) h.bx.lt]; exact h.fz i⟩
end Go.Proofs.YtahdmomadbbhoaaGreat
end
section
namespace Go.Proofs.YtahdmomadbbhoaaGreat
set_option linter.unusedVariables false

def hiN (x : Int) : Int := IntKind.i64.wrap (x / 18446744073709551616)
def loN (x : Int) : Int := x % 18446744073709551616
def topN (x : Int) : Int := IntKind.i64.wrap (x / 340282366920938463463374607431768211456)
def In128 (x : Int) : Prop := -170141183460469231731687303715884105728 ≤ x ∧ x ≤ 170141183460469231731687303715884105727
def In64 (x : Int) : Prop := -9223372036854775808 ≤ x ∧ x ≤ 9223372036854775807
def In192 (x : Int) : Prop := -3138550867693340381917894711603833208051177722232017256448 ≤ x ∧ x < 3138550867693340381917894711603833208051177722232017256448
instance (x : Int) : Decidable (In128 x) := by unfold In128; infer_instance
instance (x : Int) : Decidable (In64 x) := by unfold In64; infer_instance
theorem lo_nn (x : Int) : 0 ≤ loN x := by unfold loN; omega
theorem lo_lt (x : Int) : loN x < 18446744073709551616 := by unfold loN; omega
theorem uwrap_rng (x : Int) : 0 ≤ IntKind.u64.wrap x ∧ IntKind.u64.wrap x < 18446744073709551616 := by rw [IntKind.wrap_u64]; omega
theorem uhi (x : Int) : IntKind.u64.wrap (hiN x) = x / 18446744073709551616 % 18446744073709551616 := by
  unfold hiN
  rw [IntKind.wrap_i64, IntKind.wrap_u64]
  omega
theorem utop (x : Int) : IntKind.u64.wrap (topN x) = x / 340282366920938463463374607431768211456 % 18446744073709551616 := by
  unfold topN
  rw [IntKind.wrap_i64, IntKind.wrap_u64]
  omega
theorem plus_parts (x y s0 k0 s1 k1 s2 k2 : Int)
    (h0 : loN x + loN y + 0 = s0 + 18446744073709551616 * k0) (b0 : 0 ≤ s0 ∧ s0 < 18446744073709551616)
    (h1 : IntKind.u64.wrap (hiN x) + IntKind.u64.wrap (hiN y) + k0 = s1 + 18446744073709551616 * k1) (b1 : 0 ≤ s1 ∧ s1 < 18446744073709551616)
    (h2 : IntKind.u64.wrap (topN x) + IntKind.u64.wrap (topN y) + k1 = s2 + 18446744073709551616 * k2) (b2 : 0 ≤ s2 ∧ s2 < 18446744073709551616) :
    s0 = loN (x + y) ∧ IntKind.i64.wrap s1 = hiN (x + y) ∧ IntKind.i64.wrap s2 = topN (x + y) := by
  rw [uhi, uhi] at h1
  rw [utop, utop] at h2
  unfold loN at *
  unfold hiN topN
  have e0 : s0 = (x + y) % 18446744073709551616 := by omega
  have q0 : (x + y) / 18446744073709551616 = x / 18446744073709551616 + y / 18446744073709551616 + k0 := by omega
  have dx : x / 340282366920938463463374607431768211456 = x / 18446744073709551616 / 18446744073709551616 := by omega
  have dy : y / 340282366920938463463374607431768211456 = y / 18446744073709551616 / 18446744073709551616 := by omega
  have dz : (x + y) / 340282366920938463463374607431768211456 = (x + y) / 18446744073709551616 / 18446744073709551616 := by omega
  rw [dx, dy] at h2
  rw [dz, q0]
  generalize x / 18446744073709551616 = a at *
  generalize y / 18446744073709551616 = b at *
  have e1 : s1 = (a + b + k0) % 18446744073709551616 := by omega
  have q1 : (a + b + k0) / 18446744073709551616 = a / 18446744073709551616 + b / 18446744073709551616 + k1 := by omega
  refine ⟨e0, ?_, ?_⟩
  · rw [IntKind.wrap_i64, IntKind.wrap_i64, e1]; omega
  · rw [q1, IntKind.wrap_i64, IntKind.wrap_i64]
    have e2 : s2 = (a / 18446744073709551616 + b / 18446744073709551616 + k1) % 18446744073709551616 := by omega
    rw [e2]; omega
theorem minus_parts (x s0 k0 s1 k1 s2 k2 : Int)
    (h0 : 0 - loN x - 0 = s0 - 18446744073709551616 * k0) (b0 : 0 ≤ s0 ∧ s0 < 18446744073709551616)
    (h1 : 0 - IntKind.u64.wrap (hiN x) - k0 = s1 - 18446744073709551616 * k1) (b1 : 0 ≤ s1 ∧ s1 < 18446744073709551616)
    (h2 : 0 - IntKind.u64.wrap (topN x) - k1 = s2 - 18446744073709551616 * k2) (b2 : 0 ≤ s2 ∧ s2 < 18446744073709551616) :
    s0 = loN (-x) ∧ IntKind.i64.wrap s1 = hiN (-x) ∧ IntKind.i64.wrap s2 = topN (-x) := by
  rw [uhi] at h1
  rw [utop] at h2
  unfold loN at *
  unfold hiN topN
  have e0 : s0 = (-x) % 18446744073709551616 := by omega
  have q0 : (-x) / 18446744073709551616 = -(x / 18446744073709551616) - k0 := by omega
  have dx : x / 340282366920938463463374607431768211456 = x / 18446744073709551616 / 18446744073709551616 := by omega
  have dz : (-x) / 340282366920938463463374607431768211456 = (-x) / 18446744073709551616 / 18446744073709551616 := by omega
  rw [dx] at h2
  rw [dz, q0]
  generalize x / 18446744073709551616 = a at *
  have e1 : s1 = (-a - k0) % 18446744073709551616 := by omega
  have q1 : (-a - k0) / 18446744073709551616 = -(a / 18446744073709551616) - k1 := by omega
  refine ⟨e0, ?_, ?_⟩
  · rw [IntKind.wrap_i64, IntKind.wrap_i64, e1]; omega
  · rw [q1, IntKind.wrap_i64, IntKind.wrap_i64]
    have e2 : s2 = (-(a / 18446744073709551616) - k1) % 18446744073709551616 := by omega
    rw [e2]; omega
theorem hi_in {x : Int} (h : In128 x) : hiN x = x / 18446744073709551616 := by
  unfold hiN In128 at *
  rw [IntKind.wrap_i64]; omega
theorem top_in {x : Int} (h : In128 x) : topN x = hiN x / 9223372036854775808 := by
  rw [hi_in h]
  unfold topN In128 at *
  rw [IntKind.wrap_i64]; omega
theorem split_in {x : Int} (h : In128 x) : x = hiN x * 18446744073709551616 + loN x := by
  rw [hi_in h]; unfold loN; omega
theorem narrow_iff {x : Int} (h : In192 x) : topN x = hiN x / 9223372036854775808 ↔ In128 x := by
  constructor
  · intro e
    unfold topN hiN In192 In128 at *
    have dx : x / 340282366920938463463374607431768211456 = x / 18446744073709551616 / 18446744073709551616 := by omega
    have hb : -170141183460469231731687303715884105728 ≤ x / 18446744073709551616 ∧ x / 18446744073709551616 < 170141183460469231731687303715884105728 := by omega
    rw [dx] at e
    have : -9223372036854775808 ≤ x / 18446744073709551616 ∧ x / 18446744073709551616 ≤ 9223372036854775807 := by
      clear h dx
      generalize x / 18446744073709551616 = a at *
      rw [IntKind.wrap_i64, IntKind.wrap_i64] at e
      omega
    clear e
    omega
  · exact top_in
theorem parts_inj {x y : Int} (hx : In128 x) (hy : In128 y) (h : hiN x = hiN y) (l : loN x = loN y) : x = y := by
  rw [split_in hx, split_in hy, h, l]
theorem of_in (n : Int) (h : In64 n) : hiN n = n / 9223372036854775808 ∧ loN n = IntKind.u64.wrap n ∧ In128 n := by
  unfold In64 at h
  refine ⟨?_, ?_, ?_⟩
  · unfold hiN; rw [IntKind.wrap_i64]; omega
  · unfold loN; rw [IntKind.wrap_u64]
  · unfold In128; omega
theorem int_iff {x : Int} (h : In128 x) : hiN x = IntKind.i64.wrap (loN x) / 9223372036854775808 ↔ In64 x := by
  rw [hi_in h]
  unfold In128 In64 loN at *
  rw [IntKind.wrap_i64]
  omega
theorem int_lo {x : Int} (h : In64 x) : IntKind.i64.wrap (loN x) = x := by
  unfold In64 loN at *
  rw [IntKind.wrap_i64]; omega
theorem run_add64' {P : Program} {f : FuncId} {fn : Func} (hf : P.funcs[f]? = some fn) (hname : (fn.name == "runtime.NumGoroutine") = false)
    (hb : fn.body.isNone = true) (hn : Extern.findNext fn = none) (he : Extern.find fn = some add64Entry) (x y c : Int) (hx : 0 ≤ x ∧ x < 18446744073709551616) (hy : 0 ≤ y ∧ y < 18446744073709551616) (hc : 0 ≤ c ∧ c ≤ 1) :
    ∃ s k : Int, (∀ w, (callFunc f #[.int .u64 x, .int .u64 y, .int .u64 c]).run P w = .ok (.value (.tuple #[.int .u64 s, .int .u64 k])) w) ∧ x + y + c = s + 18446744073709551616 * k ∧ (0 ≤ s ∧ s < 18446744073709551616) ∧ (0 ≤ k ∧ k ≤ 1) := by
  refine ⟨(x + y + c) % 18446744073709551616, (x + y + c) / 18446744073709551616, fun w => ?_, by omega, by omega, by omega⟩
  rw [run_callFunc_extern hf hname hb hn he, run_add64 x y c hx.1 hy.1 hc.1 hc.2]
  rfl
def sub64Row : Array Value → Sem Value := fun args => do
  let (x, y, b) ← Extern.MathBitsCarry.three "Sub64" args
  pure (Extern.MathBitsCarry.pair ((x + Extern.MathBitsCarry.m64 - y - b) % Extern.MathBitsCarry.m64) (if x < y + b then 1 else 0))
theorem run_sub64' {P : Program} {f : FuncId} {fn : Func} (hf : P.funcs[f]? = some fn) (hname : (fn.name == "runtime.NumGoroutine") = false)
    (hb : fn.body.isNone = true) (hn : Extern.findNext fn = none) (he : Extern.find fn = some sub64Row) (x y c : Int) (hx : 0 ≤ x ∧ x < 18446744073709551616) (hy : 0 ≤ y ∧ y < 18446744073709551616) (hc : 0 ≤ c ∧ c ≤ 1) :
    ∃ s k : Int, (∀ w, (callFunc f #[.int .u64 x, .int .u64 y, .int .u64 c]).run P w = .ok (.value (.tuple #[.int .u64 s, .int .u64 k])) w) ∧ x - y - c = s - 18446744073709551616 * k ∧ (0 ≤ s ∧ s < 18446744073709551616) ∧ (0 ≤ k ∧ k ≤ 1) := by
  obtain ⟨a, rfl⟩ := Int.eq_ofNat_of_zero_le hx.1
  obtain ⟨b, rfl⟩ := Int.eq_ofNat_of_zero_le hy.1
  obtain ⟨k, rfl⟩ := Int.eq_ofNat_of_zero_le hc.1
  refine ⟨(((a + 18446744073709551616 - b - k) % 18446744073709551616 : Nat) : Int), ((if a < b + k then 1 else 0 : Nat) : Int), fun w => ?_, ?_, by omega, by split <;> omega⟩
  · rw [run_callFunc_extern hf hname hb hn he]
    have hk : k = 0 ∨ k = 1 := by omega
    rcases hk with rfl | rfl <;> rfl
  · split <;> omega
end Go.Proofs.YtahdmomadbbhoaaGreat
end
