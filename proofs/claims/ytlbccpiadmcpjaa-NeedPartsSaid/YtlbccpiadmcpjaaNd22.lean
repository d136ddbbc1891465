import Derived.Test.YtlbccpiadmcpjaaNd02
import Derived.Test.YtlbccpiadmcpjaaNd11
import Derived.Test.YtlbccpiadmcpjaaNd21
import Derived.Lib.ItoaNum
import Derived.Test.YtlbccpiadmcpjaaNd16
import Derived.Deep.CutBlock
import Derived.Deep.CutRange
import Derived.Deep.DeepCutAuto
import Derived.Test.YtlbccpiadmcpjaaNd17
section
namespace Go.Proofs.Ytlbccpiadmcpjaa
open Go.ChangeShapes Go.WideShapes Go.ChangeAt Go.RowKit
set_option linter.unusedVariables false
set_option linter.unusedSimpArgs false

structure Ic where
  id : Int
  mult : Int
  price : Int
  nxt : Int
  L : List Sx
deriving DecidableEq
structure IqIs (w : World) (g : Iq) (c : Ic) : Prop where
  id : g.id = c.id
  mult : g.mult = c.mult
  price : g.price = c.price
  nxt : g.nxt = c.nxt
  len : g.mvL = c.L.length
  sl : Sl w g.mv (rc Sx.cells c.L)
theorem IqIs.below {w w' : World} {g : Iq} {c : Ic} (h : IqIs w g c) (hb : Below w.heap.size w w') : IqIs w' g c := ⟨h.id, h.mult, h.price, h.nxt, h.len, h.sl.below hb⟩
def IqTab (w : World) (l : List Iq) (cs : List Ic) : Prop := l.length = cs.length ∧ ∀ i, (h : i < l.length) → (h2 : i < cs.length) → IqIs w l[i] cs[i]
theorem IqTab.below {w w' : World} {l : List Iq} {cs : List Ic} (h : IqTab w l cs) (hb : Below w.heap.size w w') : IqTab w' l cs := ⟨h.1, fun i h1 h2 => (h.2 i h1 h2).below hb⟩
theorem IqTab.nil (w : World) : IqTab w [] [] := ⟨rfl, fun i h => by simp at h⟩
theorem IqTab.cons {w : World} {g : Iq} {c : Ic} {l : List Iq} {cs : List Ic} : IqTab w (g :: l) (c :: cs) ↔ IqIs w g c ∧ IqTab w l cs := by
  constructor
  · rintro ⟨h1, h2⟩
    exact ⟨h2 0 (by simp) (by simp), by simpa using h1, fun i a b => h2 (i + 1) (by simpa using a) (by simpa using b)⟩
  · rintro ⟨h0, h1, h2⟩
    refine ⟨by simpa using h1, fun i a b => ?_⟩
    cases i with
    | zero => exact h0
    | succ i => exact h2 i (by simpa using a) (by simpa using b)
theorem IqTab.append {w : World} : ∀ {l m : List Iq} {cs ds : List Ic}, IqTab w l cs → IqTab w m ds → IqTab w (l ++ m) (cs ++ ds)
  | [], m, [], ds, _, h => h
  | [], _, _ :: _, _, h, _ => by have := h.1; simp at this
  | _ :: _, _, [], _, h, _ => by have := h.1; simp at this
  | a :: l, m, d :: cs, ds, h, k => by
    obtain ⟨h1, h2⟩ := IqTab.cons.1 h
    exact IqTab.cons.2 ⟨h1, IqTab.append h2 k⟩
theorem IqTab.take {w : World} {l : List Iq} {cs : List Ic} (h : IqTab w l cs) (k : Nat) : IqTab w (l.take k) (cs.take k) := by
  refine ⟨by simp [h.1], fun i h1 h2 => ?_⟩
  rw [List.getElem_take, List.getElem_take]
  exact h.2 i (by simp at h1; omega) (by simp at h2; omega)
theorem IqTab.drop {w : World} {l : List Iq} {cs : List Ic} (h : IqTab w l cs) (k : Nat) : IqTab w (l.drop k) (cs.drop k) := by
  refine ⟨by simp [h.1], fun i h1 h2 => ?_⟩
  rw [List.getElem_drop, List.getElem_drop]
  exact h.2 _ (by simp at h1; omega) (by simp at h2; omega)
theorem IqTab.filter {w : World} {p : Iq → Bool} {q : Ic → Bool} (hpq : ∀ g c, IqIs w g c → p g = q c) : ∀ {l : List Iq} {cs : List Ic}, IqTab w l cs → IqTab w (l.filter p) (cs.filter q)
  | [], [], _ => IqTab.nil w
  | [], _ :: _, h => by have := h.1; simp at this
  | _ :: _, [], h => by have := h.1; simp at this
  | a :: l, d :: cs, h => by
    obtain ⟨h1, h2⟩ := IqTab.cons.1 h
    rw [List.filter_cons, List.filter_cons, hpq a d h1]
    split
    · exact IqTab.cons.2 ⟨h1, IqTab.filter hpq h2⟩
    · exact IqTab.filter hpq h2
theorem IqTab.put {w : World} {g : Iq} {c : Ic} {ah : Iq → Iq → Bool} {ac : Ic → Ic → Bool} (hah : ∀ g c g' c', IqIs w g c → IqIs w g' c' → ah g g' = ac c c') (hg : IqIs w g c) : ∀ {l : List Iq} {cs : List Ic}, IqTab w l cs → IqTab w (putR ah l g) (putR ac cs c)
  | [], [], _ => IqTab.cons.2 ⟨hg, IqTab.nil w⟩
  | [], _ :: _, h => by have := h.1; simp at this
  | _ :: _, [], h => by have := h.1; simp at this
  | a :: l, d :: cs, h => by
    obtain ⟨h1, h2⟩ := IqTab.cons.1 h
    unfold putR
    rw [hah a d g c h1 hg, hah g c a d hg h1]
    split
    · exact IqTab.cons.2 ⟨h1, IqTab.put hah hg h2⟩
    · split
      · exact IqTab.cons.2 ⟨hg, IqTab.cons.2 ⟨h1, h2⟩⟩
      · exact IqTab.cons.2 ⟨hg, h2⟩
theorem IqTab.set {w : World} {l : List Iq} {cs : List Ic} {g : Iq} {c : Ic} (h : IqTab w l cs) (hg : IqIs w g c) (k : Nat) : IqTab w (l.set k g) (cs.set k c) := by
  refine ⟨by simp [h.1], fun i h1 h2 => ?_⟩
  rw [List.getElem_set, List.getElem_set]
  split
  · exact hg
  · exact h.2 i (by simpa using h1) (by simpa using h2)
theorem IqTab.find {w : World} {p : Iq → Bool} {q : Ic → Bool} (hpq : ∀ g c, IqIs w g c → p g = q c) : ∀ {l : List Iq} {cs : List Ic}, IqTab w l cs → (l.find? p = none ∧ cs.find? q = none) ∨ (∃ g c, l.find? p = some g ∧ cs.find? q = some c ∧ IqIs w g c)
  | [], [], _ => .inl ⟨rfl, rfl⟩
  | [], _ :: _, h => by have := h.1; simp at this
  | _ :: _, [], h => by have := h.1; simp at this
  | a :: l, d :: cs, h => by
    obtain ⟨h1, h2⟩ := IqTab.cons.1 h
    rw [List.find?_cons, List.find?_cons, hpq a d h1]
    cases q d with
    | true => exact .inr ⟨a, d, rfl, rfl, h1⟩
    | false => exact IqTab.find hpq h2
theorem IqTab.rising {w : World} {ah : Iq → Iq → Bool} {ac : Ic → Ic → Bool} (hah : ∀ g c g' c', IqIs w g c → IqIs w g' c' → ah g g' = ac c c') : ∀ {l : List Iq} {cs : List Ic}, IqTab w l cs → risingL ah l = risingL ac cs
  | [], [], _ => rfl
  | [], _ :: _, h => by have := h.1; simp at this
  | _ :: _, [], h => by have := h.1; simp at this
  | [a], [d], h => rfl
  | [a], _ :: _ :: _, h => by have := h.1; simp at this
  | _ :: _ :: _, [d], h => by have := h.1; simp at this
  | a :: b :: l, d :: e :: cs, h => by
    obtain ⟨h1, h2⟩ := IqTab.cons.1 h
    obtain ⟨h3, h4⟩ := IqTab.cons.1 h2
    simp only [risingL]
    rw [hah a d b e h1 h3, IqTab.rising hah h2]
structure IqOwn (B : Nat) (w : World) (g : Iq) (c : Ic) : Prop where
  id : g.id = c.id
  mult : g.mult = c.mult
  price : g.price = c.price
  nxt : g.nxt = c.nxt
  len : g.mvL = c.L.length
  own : w.ownsRow B 2 1 (.slice g.mv c.L.length g.mvC) c.L.length (rc Sx.cells c.L)
theorem IqOwn.is {B : Nat} {w : World} {g : Iq} {c : Ic} (h : IqOwn B w g c) : IqIs w g c := ⟨h.id, h.mult, h.price, h.nxt, h.len, Sl.of_own h.own⟩
theorem IqOwn.below {B : Nat} {w w' : World} {g : Iq} {c : Ic} (h : IqOwn B w g c) (hb : Below w.heap.size w w') : IqOwn B w' g c := ⟨h.id, h.mult, h.price, h.nxt, h.len, own_below h.own hb⟩
theorem own_kept_iq {w w' : World} {B B' : Nat} {v v' : Value} {n n' : Nat} {xs ys : List Value} (h : w.ownsRow B 2 1 v n xs) (ho : w.ownsRow B' 48 5 v' n' ys) (hg : w.grownBy w' v'.ownBlock) : w'.ownsRow B 2 1 v n xs := own_kept_types (by decide) h ho hg
theorem IqOwn.kept {w w' : World} {B B' : Nat} {g : Iq} {c : Ic} {v' : Value} {n' : Nat} {ys : List Value} (h : IqOwn B w g c) (ho : w.ownsRow B' 48 5 v' n' ys) (hg : w.grownBy w' v'.ownBlock) : IqOwn B w' g c := ⟨h.id, h.mult, h.price, h.nxt, h.len, own_kept_iq h.own ho hg⟩
def IqOTab (B : Nat) (w : World) (l : List Iq) (cs : List Ic) : Prop := l.length = cs.length ∧ ∀ i, (h : i < l.length) → (h2 : i < cs.length) → IqOwn B w l[i] cs[i]
theorem IqOTab.below {B : Nat} {w w' : World} {l : List Iq} {cs : List Ic} (h : IqOTab B w l cs) (hb : Below w.heap.size w w') : IqOTab B w' l cs := ⟨h.1, fun i h1 h2 => (h.2 i h1 h2).below hb⟩
theorem IqOTab.kept {w w' : World} {B B' : Nat} {l : List Iq} {cs : List Ic} {v' : Value} {n' : Nat} {ys : List Value} (h : IqOTab B w l cs) (ho : w.ownsRow B' 48 5 v' n' ys) (hg : w.grownBy w' v'.ownBlock) : IqOTab B w' l cs := ⟨h.1, fun i h1 h2 => (h.2 i h1 h2).kept ho hg⟩
structure BzIq (w : World) (b : Nat) : Prop where
  bk : Bk w b #[.int .i64 0, .int .i64 0, .int .i64 0, .int .i64 0, .slice none 0 0]
  fz : ∀ i, w.frozen? ⟨b, i, none⟩ = false
theorem BzIq.new (w : World) : BzIq (w.alloc (.cells #[.int .i64 0, .int .i64 0, .int .i64 0, .int .i64 0, .slice none 0 0] 48)) w.heap.size := ⟨Bk.new w _ _, fun i => by simp⟩
theorem BzIq.below {w w' : World} {b : Nat} (h : BzIq w b) (hb : Below w.heap.size w w') : BzIq w' b := ⟨h.bk.below hb, fun i => by rw [hb.frozen (p := ⟨b, i, none⟩) h.bk.1]; exact h.fz i⟩
theorem BzIq.got {w : World} {b : Nat} (h : BzIq w b) : w.cell? ⟨b, 0, none⟩ = some (.int .i64 0) ∧ w.cell? ⟨b, 1, none⟩ = some (.int .i64 0) ∧ w.cell? ⟨b, 2, none⟩ = some (.int .i64 0) ∧ w.cell? ⟨b, 3, none⟩ = some (.int .i64 0) ∧ w.cell? ⟨b, 4, none⟩ = some (.slice none 0 0) := by
  have h1 := h.bk.2
  exact ⟨h1 0, h1 1, h1 2, h1 3, h1 4⟩
structure AfIq (w : World) (b : Nat) (g : Iq) : Prop where
  bx : Iq.Bx w b g
  fz : ∀ i, w.frozen? ⟨b, i, none⟩ = false
theorem AfIq.below {w w' : World} {b : Nat} {g : Iq} (h : AfIq w b g) (hb : Below w.heap.size w w') : AfIq w' b g := ⟨h.bx.below hb, fun i => by rw [hb.frozen (p := ⟨b, i, none⟩) h.bx.lt]; exact h.fz i⟩
set_option maxHeartbeats 4000000 in
set_option maxRecDepth 100000 in
theorem dup1_iq (id : Int) (mult : Int) (price : Int) (nxt : Int) (A : Option Addr) (cap : Nat) (L : List Sx) (w : World) (hl : L.length ≤ 900000) (hs : Sl w A (rc Sx.cells L)) :
    Calls Try.prog 102 #[.agg #[.int .i64 id, .int .i64 mult, .int .i64 price, .int .i64 nxt, .slice A L.length cap]] w fun e w' => (∃ A' c', e = .returned (.agg #[.int .i64 id, .int .i64 mult, .int .i64 price, .int .i64 nxt, .slice A' L.length c']) ∧ w'.ownsRow w.heap.size 2 1 (.slice A' L.length c') L.length (rc Sx.cells L)) ∧ Below w.heap.size w w' := by
  have hB0 := since_alloc (since_alloc (Below.refl _ w) (.cells #[.int .i64 id, .int .i64 mult, .int .i64 price, .int .i64 nxt, .slice A L.length cap] 48)) (.cells #[.int .i64 0, .int .i64 0, .int .i64 0, .int .i64 0, .slice none 0 0] 48)
  have hV0 : AfIq ((w.alloc (.cells #[.int .i64 id, .int .i64 mult, .int .i64 price, .int .i64 nxt, .slice A L.length cap] 48)).alloc (.cells #[.int .i64 0, .int .i64 0, .int .i64 0, .int .i64 0, .slice none 0 0] 48)) w.heap.size ⟨id, mult, price, nxt, A, L.length, cap⟩ := ⟨(Iq.Bx.new w ⟨id, mult, price, nxt, A, L.length, cap⟩).below ((Below.refl _ _).alloc (Nat.le_refl _) (.cells #[.int .i64 0, .int .i64 0, .int .i64 0, .int .i64 0, .slice none 0 0] 48)), fun i => by simp⟩
  have hZ0 : BzIq ((w.alloc (.cells #[.int .i64 id, .int .i64 mult, .int .i64 price, .int .i64 nxt, .slice A L.length cap] 48)).alloc (.cells #[.int .i64 0, .int .i64 0, .int .i64 0, .int .i64 0, .slice none 0 0] 48)) (w.heap.size + 1) := by have h := BzIq.new (w.alloc (.cells #[.int .i64 id, .int .i64 mult, .int .i64 price, .int .i64 nxt, .slice A L.length cap] 48)); rw [World.size_alloc] at h; exact h
  have hs0 := (hs.alloc (.cells #[.int .i64 id, .int .i64 mult, .int .i64 price, .int .i64 nxt, .slice A L.length cap] 48)).alloc (.cells #[.int .i64 0, .int .i64 0, .int .i64 0, .int .i64 0, .slice none 0 0] 48)
  clear hs
  go_enter Try.func102, Try.ntmps102
  go_upto_region 1 with fail
  generalize hWW : (w.alloc (.cells #[.int .i64 id, .int .i64 mult, .int .i64 price, .int .i64 nxt, .slice A L.length cap] 48)).alloc (.cells #[.int .i64 0, .int .i64 0, .int .i64 0, .int .i64 0, .slice none 0 0] 48) = w0 at *
  clear hWW
  have hcs := @cell_set
  obtain ⟨q0, q1, q2, q3, q4⟩ := (hV0.bx).got
  simp only at q0 q1 q2 q3 q4
  obtain ⟨z0, z1, z2, z3, z4⟩ := hZ0.got
  have fq := hV0.fz
  have fz := hZ0.fz
  have lq := hV0.bx.lt
  have lz := hZ0.bk.1
  have hzl := hZ0.bk.1
  go_wp2_with fail
  refine (clone_sx A cap L _ (by omega) hs0).mono ?_
  rintro e w1 ⟨⟨A1, c1, rfl, hown⟩, hb⟩
  have hV1 := hV0.below hb
  have hZ1 := hZ0.below hb
  have hB1 := since_step hB0 hb
  clear hb q0 q1 q2 q3 q4 z0 z1 z2 z3 z4 fq fz lq lz
  obtain ⟨q0, q1, q2, q3, q4⟩ := (hV1.bx).got
  simp only at q0 q1 q2 q3 q4
  obtain ⟨z0, z1, z2, z3, z4⟩ := hZ1.got
  have fq := hV1.fz
  have fz := hZ1.fz
  have lq := hV1.bx.lt
  have lz := hZ1.bk.1
  go_wp2_with fail
  refine bodyPost_ret (v := .agg #[.int .i64 id, .int .i64 mult, .int .i64 price, .int .i64 nxt, .slice A1 L.length c1]) ?_ rfl ⟨⟨A1, c1, rfl, own_base ?_ hB0.size⟩, ?_⟩
  · simp [results, Try.results102, go_sem, z0, z1, z2, z3, z4, q0, q1, q2, q3, q4, fz, fq, hcs]
  · repeat' (first | with_reducible exact hown | with_reducible refine own_setFar' ?_ ?_ _)
    all_goals first | (simp; done) | (simp; omega)
  · repeat' (first | with_reducible exact hB1 | with_reducible refine Below.setCell ?_ ?_ _ | with_reducible refine Below.alloc ?_ ?_ _)
    all_goals first | (simp; done) | (simp; omega)
end Go.Proofs.Ytlbccpiadmcpjaa
end
section
namespace Go.Proofs.Ytlbccpiadmcpjaa
open Go.ChangeShapes Go.WideShapes Go.ChangeAt Go.RowKit
set_option linter.unusedVariables false
set_option linter.unusedSimpArgs false

structure Dg (Y A B u d : Nat) : Prop where
  hy : Y = A * 4294967296 + B
  hb : B < 4294967296
  ha : 2147483648 ≤ A
  ha2 : A < 4294967296
  hu : u < Y
  hd : d < 4294967296
theorem lin_le (qa qb r d M : Nat) (hc : qb ≤ r * M + d) : qa * M + qb ≤ (qa + r) * M + d := by rw [Nat.add_mul]; omega
section digit
variable {Y A B u d : Nat}
def dgQ (Y u d : Nat) : Nat := (u * 4294967296 + d) / Y
theorem Dg.pos (h : Dg Y A B u d) : 0 < Y := by have := h.hu; omega
theorem Dg.q2 (h : Dg Y A B u d) : u / A ≤ 4294967297 := by
  have hA : 0 < A := by have := h.ha; omega
  have : u / A < 4294967298 := by
    rw [Nat.div_lt_iff_lt_mul hA]
    have := h.hu; have := h.hy; have := h.hb; have := h.ha
    omega
  omega
theorem Dg.done (h : Dg Y A B u d) {q r : Nat} (e : q * A + r = u) (hq : dgQ Y u d ≤ q) (hc : q * B ≤ r * 4294967296 + d) : q = dgQ Y u d := by
  have : q ≤ dgQ Y u d := by
    clear hq
    unfold dgQ
    have e2 : q * Y = q * A * 4294967296 + q * B := by rw [h.hy, Nat.mul_add q (A * 4294967296) B, Nat.mul_assoc q A 4294967296]
    rw [Nat.le_div_iff_mul_le h.pos, e2]
    subst e
    exact lin_le _ _ _ _ _ hc
  omega
theorem Dg.rest (h : Dg Y A B u d) : dgQ Y u d * Y ≤ u * 4294967296 + d ∧ u * 4294967296 + d - dgQ Y u d * Y < Y := by
  have h1 : dgQ Y u d * Y ≤ u * 4294967296 + d := Nat.div_mul_le_self _ _
  refine ⟨h1, ?_⟩
  have h2 : Y * dgQ Y u d + (u * 4294967296 + d) % Y = u * 4294967296 + d := Nat.div_add_mod _ _
  have h3 : (u * 4294967296 + d) % Y < Y := Nat.mod_lt _ h.pos
  rw [Nat.mul_comm] at h2
  omega
end digit
theorem Dg.u2 {Y A B u d u2 : Nat} (h : Dg Y A B u d) (hu : u2 = u * 4294967296 + d - dgQ Y u d * Y) : u * 4294967296 + d = dgQ Y u d * Y + u2 ∧ u2 < Y := by
  obtain ⟨h1, h2⟩ := h.rest
  rw [hu]
  refine ⟨?_, h2⟩
  generalize dgQ Y u d * Y = m at *
  omega
end Go.Proofs.Ytlbccpiadmcpjaa
end
section
namespace Go.Proofs.Ytlbccpiadmcpjaa
open Go.ChangeShapes Go.WideShapes Go.ChangeAt Go.RowKit
set_option linter.unusedVariables false
set_option linter.unusedSimpArgs false

set_option maxHeartbeats 2000000 in
theorem wcmp_any (x y : Int) (hx : In128 x) (hy : In128 y) (w : World) :
    Calls Try.prog 92 #[.agg #[.int .i64 (hiN x), .int .u64 (loN x)], .agg #[.int .i64 (hiN y), .int .u64 (loN y)]] w fun e w' => e = .returned (.int .i64 (cmpZ x y)) ∧ Below w.heap.size w w' := by
  have hxs := split_in hx
  have hys := split_in hy
  have lx := lo_nn x
  have ly := lo_nn y
  have lx2 := lo_lt x
  have ly2 := lo_lt y
  have hz : cmpZ x y = if hiN x = hiN y ∧ loN x = loN y then 0 else if hiN x < hiN y ∨ (hiN x = hiN y ∧ loN x < loN y) then -1 else 1 := by
    unfold cmpZ
    by_cases h1 : x = y
    · subst h1; simp
    · have hne : ¬ (hiN x = hiN y ∧ loN x = loN y) := fun h => h1 (parts_inj hx hy h.1 h.2)
      rw [if_neg h1, if_neg hne]
      by_cases h2 : x < y
      · rw [if_pos h2, if_pos (show hiN x < hiN y ∨ (hiN x = hiN y ∧ loN x < loN y) by omega)]
      · rw [if_neg h2, if_neg (show ¬ (hiN x < hiN y ∨ (hiN x = hiN y ∧ loN x < loN y)) by omega)]
  have HZ := Lib.hid hz
  clear hz hxs hys lx ly lx2 ly2
  generalize hiN x = a at *
  generalize hiN y = b at *
  generalize loN x = c at *
  generalize loN y = d at *
  have P1 := (T2.new w a c 98).alloc (.cells #[.int .i64 b, .int .u64 d] 98)
  have P2 : T2 ((w.alloc (.cells #[.int .i64 a, .int .u64 c] 98)).alloc (.cells #[.int .i64 b, .int .u64 d] 98)) (w.heap.size + 1) b d := by
    have := T2.new (w.alloc (.cells #[.int .i64 a, .int .u64 c] 98)) b d 98
    rwa [World.size_alloc] at this
  have hB := since_alloc (since_alloc (Below.refl _ w) (.cells #[.int .i64 a, .int .u64 c] 98)) (.cells #[.int .i64 b, .int .u64 d] 98)
  go_enter Try.func92, Try.ntmps92
  go_upto_region 1 with fail
  generalize (w.alloc (.cells #[.int .i64 a, .int .u64 c] 98)).alloc (.cells #[.int .i64 b, .int .u64 d] 98) = W at *
  obtain ⟨p0, p1, p2, p3, p4⟩ := P1
  obtain ⟨q0, q1, q2, q3, q4⟩ := P2
  by_cases h1 : a = b
  · subst h1
    by_cases h2 : c = d
    · subst h2
      go_wp2
      go_ret
      exact ⟨by rw [HZ.out]; simp, hB⟩
    · have k1 : (c == d) = false := by simp; exact h2
      have k2 : decide (a < a) = false := by simp
      by_cases h3 : c < d
      · have k3 : decide (c < d) = true := decide_eq_true h3
        go_wp2
        go_ret
        exact ⟨by rw [HZ.out]; simp; omega, hB⟩
      · have k3 : decide (c < d) = false := decide_eq_false h3
        go_wp2
        go_ret
        exact ⟨by rw [HZ.out]; simp; omega, hB⟩
  · have k1 : (a == b) = false := by simp; exact h1
    by_cases h3 : a < b
    · have k3 : decide (a < b) = true := decide_eq_true h3
      go_wp2
      go_ret
      exact ⟨by rw [HZ.out]; simp; omega, hB⟩
    · have k3 : decide (a < b) = false := decide_eq_false h3
      go_wp2
      go_ret
      exact ⟨by rw [HZ.out]; simp; omega, hB⟩
end Go.Proofs.Ytlbccpiadmcpjaa
end
