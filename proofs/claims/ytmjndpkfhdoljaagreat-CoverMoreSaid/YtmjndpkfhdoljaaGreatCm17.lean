import Derived.Test.YtmjndpkfhdoljaaGreatCm02
import Derived.Test.YtmjndpkfhdoljaaGreatCm04
import Derived.Test.YtmjndpkfhdoljaaGreatCm16
import Derived.Lib.ItoaNum
import Derived.Test.YtmjndpkfhdoljaaGreatCm08
set_option maxHeartbeats 16000000
set_option maxRecDepth 100000
set_option linter.unusedVariables false
set_option linter.unusedSimpArgs false
namespace Go.Proofs.YtmjndpkfhdoljaaGreat
open Go.ChangeShapes Go.WideShapes Go.ChangeAt Go.RowKit
section
structure Ic where
  id : Int
  mult : Int
  price : Int
  nxt : Int
  L : List Sx
deriving DecidableEq
structure IqIs (w : World) (g : Iq) (c : Ic) : Prop where
  id : g.id = c.id
  mult : g.mult = c.mult
  price : g.price = c.price
  nxt : g.nxt = c.nxt
  len : g.mvL = c.L.length
  sl : Sl w g.mv (rc Sx.cells c.L)
theorem IqIs.below {w w' : World} {g : Iq} {c : Ic} (h : IqIs w g c) (hb : Below w.heap.size w w') : IqIs w' g c := ⟨h.id, h.mult, h.price, h.nxt, h.len, h.sl.below hb⟩
def IqTab (w : World) (l : List Iq) (cs : List Ic) : Prop := l.length = cs.length ∧ ∀ i, (h : i < l.length) → (h2 : i < cs.length) → IqIs w l[i] cs[i]
theorem IqTab.below {w w' : World} {l : List Iq} {cs : List Ic} (h : IqTab w l cs) (hb : Below w.heap.size w w') : IqTab w' l cs := ⟨h.1, fun i h1 h2 => (h.2 i h1 h2).below hb⟩
theorem IqTab.nil (w : World) : IqTab w [] [] := ⟨rfl, fun i h => by simp at h⟩
theorem IqTab.cons {w : World} {g : Iq} {c : Ic} {l : List Iq} {cs : List Ic} : IqTab w (g :: l) (c :: cs) ↔ IqIs w g c ∧ IqTab w l cs := by
  constructor
  · rintro ⟨h1, h2⟩
    exact ⟨h2 0 (by simp) (by simp), by simpa using h1, fun i a b => h2 (i + 1) (by simpa using a) (by simpa using b)⟩
  · rintro ⟨h0, h1, h2⟩
    refine ⟨by simpa using h1, fun i a b => ?_⟩
    cases i with
    | zero => exact h0
    | succ i => exact h2 i (by simpa using a) (by simpa using b)
theorem IqTab.app {w : World} {l : List Iq} {cs : List Ic} {g : Iq} {c : Ic} (h : IqTab w l cs) (hg : IqIs w g c) : IqTab w (l ++ [g]) (cs ++ [c]) := by
  refine ⟨by simp [h.1], fun i h1 h2 => ?_⟩
  have hl := h.1
  rcases Nat.lt_or_ge i l.length with hi | hi
  · rw [List.getElem_append_left hi, List.getElem_append_left (by omega)]; exact h.2 i hi (by omega)
  · have : i = l.length := by simp at h1; omega
    subst this
    simp [hl]
    exact hg
theorem IqTab.append {w : World} : ∀ {l m : List Iq} {cs ds : List Ic}, IqTab w l cs → IqTab w m ds → IqTab w (l ++ m) (cs ++ ds)
  | [], m, [], ds, _, h => h
  | [], _, _ :: _, _, h, _ => by have := h.1; simp at this
  | _ :: _, _, [], _, h, _ => by have := h.1; simp at this
  | a :: l, m, d :: cs, ds, h, k => by
    obtain ⟨h1, h2⟩ := IqTab.cons.1 h
    exact IqTab.cons.2 ⟨h1, IqTab.append h2 k⟩
theorem IqTab.take {w : World} {l : List Iq} {cs : List Ic} (h : IqTab w l cs) (k : Nat) : IqTab w (l.take k) (cs.take k) := by
  refine ⟨by simp [h.1], fun i h1 h2 => ?_⟩
  rw [List.getElem_take, List.getElem_take]
  exact h.2 i (by simp at h1; omega) (by simp at h2; omega)
theorem IqTab.drop {w : World} {l : List Iq} {cs : List Ic} (h : IqTab w l cs) (k : Nat) : IqTab w (l.drop k) (cs.drop k) := by
  refine ⟨by simp [h.1], fun i h1 h2 => ?_⟩
  rw [List.getElem_drop, List.getElem_drop]
  exact h.2 _ (by simp at h1; omega) (by simp at h2; omega)
theorem IqTab.filter {w : World} {p : Iq → Bool} {q : Ic → Bool} (hpq : ∀ g c, IqIs w g c → p g = q c) : ∀ {l : List Iq} {cs : List Ic}, IqTab w l cs → IqTab w (l.filter p) (cs.filter q)
  | [], [], _ => IqTab.nil w
  | [], _ :: _, h => by have := h.1; simp at this
  | _ :: _, [], h => by have := h.1; simp at this
  | a :: l, d :: cs, h => by
    obtain ⟨h1, h2⟩ := IqTab.cons.1 h
    rw [List.filter_cons, List.filter_cons, hpq a d h1]
    split
    · exact IqTab.cons.2 ⟨h1, IqTab.filter hpq h2⟩
    · exact IqTab.filter hpq h2
theorem IqTab.put {w : World} {g : Iq} {c : Ic} {ah : Iq → Iq → Bool} {ac : Ic → Ic → Bool} (hah : ∀ g c g' c', IqIs w g c → IqIs w g' c' → ah g g' = ac c c') (hg : IqIs w g c) : ∀ {l : List Iq} {cs : List Ic}, IqTab w l cs → IqTab w (putR ah l g) (putR ac cs c)
  | [], [], _ => IqTab.cons.2 ⟨hg, IqTab.nil w⟩
  | [], _ :: _, h => by have := h.1; simp at this
  | _ :: _, [], h => by have := h.1; simp at this
  | a :: l, d :: cs, h => by
    obtain ⟨h1, h2⟩ := IqTab.cons.1 h
    unfold putR
    rw [hah a d g c h1 hg, hah g c a d hg h1]
    split
    · exact IqTab.cons.2 ⟨h1, IqTab.put hah hg h2⟩
    · split
      · exact IqTab.cons.2 ⟨hg, IqTab.cons.2 ⟨h1, h2⟩⟩
      · exact IqTab.cons.2 ⟨hg, h2⟩
theorem IqTab.set {w : World} {l : List Iq} {cs : List Ic} {g : Iq} {c : Ic} (h : IqTab w l cs) (hg : IqIs w g c) (k : Nat) : IqTab w (l.set k g) (cs.set k c) := by
  refine ⟨by simp [h.1], fun i h1 h2 => ?_⟩
  rw [List.getElem_set, List.getElem_set]
  split
  · exact hg
  · exact h.2 i (by simpa using h1) (by simpa using h2)
theorem IqTab.find {w : World} {p : Iq → Bool} {q : Ic → Bool} (hpq : ∀ g c, IqIs w g c → p g = q c) : ∀ {l : List Iq} {cs : List Ic}, IqTab w l cs → (l.find? p = none ∧ cs.find? q = none) ∨ (∃ g c, l.find? p = some g ∧ cs.find? q = some c ∧ IqIs w g c)
  | [], [], _ => .inl ⟨rfl, rfl⟩
  | [], _ :: _, h => by have := h.1; simp at this
  | _ :: _, [], h => by have := h.1; simp at this
  | a :: l, d :: cs, h => by
    obtain ⟨h1, h2⟩ := IqTab.cons.1 h
    rw [List.find?_cons, List.find?_cons, hpq a d h1]
    cases q d with
    | true => exact .inr ⟨a, d, rfl, rfl, h1⟩
    | false => exact IqTab.find hpq h2
theorem IqTab.rising {w : World} {ah : Iq → Iq → Bool} {ac : Ic → Ic → Bool} (hah : ∀ g c g' c', IqIs w g c → IqIs w g' c' → ah g g' = ac c c') : ∀ {l : List Iq} {cs : List Ic}, IqTab w l cs → risingL ah l = risingL ac cs
  | [], [], _ => rfl
  | [], _ :: _, h => by have := h.1; simp at this
  | _ :: _, [], h => by have := h.1; simp at this
  | [a], [d], h => rfl
  | [a], _ :: _ :: _, h => by have := h.1; simp at this
  | _ :: _ :: _, [d], h => by have := h.1; simp at this
  | a :: b :: l, d :: e :: cs, h => by
    obtain ⟨h1, h2⟩ := IqTab.cons.1 h
    obtain ⟨h3, h4⟩ := IqTab.cons.1 h2
    simp only [risingL]
    rw [hah a d b e h1 h3, IqTab.rising hah h2]
structure IqOwn (B : Nat) (w : World) (g : Iq) (c : Ic) : Prop where
  id : g.id = c.id
  mult : g.mult = c.mult
  price : g.price = c.price
  nxt : g.nxt = c.nxt
  len : g.mvL = c.L.length
  own : w.ownsRow B 2 1 (.slice g.mv c.L.length g.mvC) c.L.length (rc Sx.cells c.L)
theorem IqOwn.is {B : Nat} {w : World} {g : Iq} {c : Ic} (h : IqOwn B w g c) : IqIs w g c := ⟨h.id, h.mult, h.price, h.nxt, h.len, Sl.of_own h.own⟩
theorem IqOwn.below {B : Nat} {w w' : World} {g : Iq} {c : Ic} (h : IqOwn B w g c) (hb : Below w.heap.size w w') : IqOwn B w' g c := ⟨h.id, h.mult, h.price, h.nxt, h.len, own_below h.own hb⟩
theorem own_kept_iq {w w' : World} {B B' : Nat} {v v' : Value} {n n' : Nat} {xs ys : List Value} (h : w.ownsRow B 2 1 v n xs) (ho : w.ownsRow B' 92 5 v' n' ys) (hg : w.grownBy w' v'.ownBlock) : w'.ownsRow B 2 1 v n xs := own_kept_types (by decide) h ho hg
theorem IqOwn.kept {w w' : World} {B B' : Nat} {g : Iq} {c : Ic} {v' : Value} {n' : Nat} {ys : List Value} (h : IqOwn B w g c) (ho : w.ownsRow B' 92 5 v' n' ys) (hg : w.grownBy w' v'.ownBlock) : IqOwn B w' g c := ⟨h.id, h.mult, h.price, h.nxt, h.len, own_kept_iq h.own ho hg⟩
def IqOTab (B : Nat) (w : World) (l : List Iq) (cs : List Ic) : Prop := l.length = cs.length ∧ ∀ i, (h : i < l.length) → (h2 : i < cs.length) → IqOwn B w l[i] cs[i]
theorem IqOTab.tab {B : Nat} {w : World} {l : List Iq} {cs : List Ic} (h : IqOTab B w l cs) : IqTab w l cs := ⟨h.1, fun i h1 h2 => (h.2 i h1 h2).is⟩
theorem IqOTab.below {B : Nat} {w w' : World} {l : List Iq} {cs : List Ic} (h : IqOTab B w l cs) (hb : Below w.heap.size w w') : IqOTab B w' l cs := ⟨h.1, fun i h1 h2 => (h.2 i h1 h2).below hb⟩
theorem IqOTab.kept {w w' : World} {B B' : Nat} {l : List Iq} {cs : List Ic} {v' : Value} {n' : Nat} {ys : List Value} (h : IqOTab B w l cs) (ho : w.ownsRow B' 92 5 v' n' ys) (hg : w.grownBy w' v'.ownBlock) : IqOTab B w' l cs := ⟨h.1, fun i h1 h2 => (h.2 i h1 h2).kept ho hg⟩
theorem IqOTab.app {B : Nat} {w : World} {l : List Iq} {cs : List Ic} {g : Iq} {c : Ic} (h : IqOTab B w l cs) (hg : IqOwn B w g c) : IqOTab B w (l ++ [g]) (cs ++ [c]) := by
  refine ⟨by simp [h.1], fun i h1 h2 => ?_⟩
  have hl := h.1
  rcases Nat.lt_or_ge i l.length with hi | hi
  · rw [List.getElem_append_left hi, List.getElem_append_left (by omega)]; exact h.2 i hi (by omega)
  · have : i = l.length := by simp at h1; omega
    subst this
    simp [hl]
    exact hg
structure BzIq (w : World) (b : Nat) : Prop where
  bk : Bk w b #[.int .i64 0, .int .i64 0, .int .i64 0, .int .i64 0, .slice none 0 0]
  fz : ∀ i, w.frozen? ⟨b, i, none⟩ = false
theorem BzIq.new (w : World) : BzIq (w.alloc (.cells #[.int .i64 0, .int .i64 0, .int .i64 0, .int .i64 0, .slice none 0 0] 92)) w.heap.size := ⟨Bk.new w _ _, fun i => by simp⟩
theorem BzIq.below {w w' : World} {b : Nat} (h : BzIq w b) (hb : Below w.heap.size w w') : BzIq w' b := ⟨h.bk.below hb, fun i => by rw [hb.frozen (p := ⟨b, i, none⟩) h.bk.1]; exact h.fz i⟩
theorem BzIq.got {w : World} {b : Nat} (h : BzIq w b) : w.cell? ⟨b, 0, none⟩ = some (.int .i64 0) ∧ w.cell? ⟨b, 1, none⟩ = some (.int .i64 0) ∧ w.cell? ⟨b, 2, none⟩ = some (.int .i64 0) ∧ w.cell? ⟨b, 3, none⟩ = some (.int .i64 0) ∧ w.cell? ⟨b, 4, none⟩ = some (.slice none 0 0) := by
  have h1 := h.bk.2
  exact ⟨h1 0, h1 1, h1 2, h1 3, h1 4⟩
structure AfIq (w : World) (b : Nat) (g : Iq) : Prop where
  bx : Iq.Bx w b g
  fz : ∀ i, w.frozen? ⟨b, i, none⟩ = false
theorem AfIq.below {w w' : World} {b : Nat} {g : Iq} (h : AfIq w b g) (hb : Below w.heap.size w w') : AfIq w' b g := ⟨h.bx.below hb, fun i => by rw [hb.frozen (p := ⟨b, i, none⟩) h.bx.lt]; exact h.fz i⟩
theorem dup1_iq (id : Int) (mult : Int) (price : Int) (nxt : Int) (A : Option Addr) (cap : Nat) (L : List Sx) (w : World) (hl : L.length ≤ 900000) (hs : Sl w A (rc Sx.cells L)) :
    Calls Tryz.prog 133 #[.agg #[.int .i64 id, .int .i64 mult, .int .i64 price, .int .i64 nxt, .slice A L.length cap]] w fun e w' => (∃ A' c', e = .returned (.agg #[.int .i64 id, .int .i64 mult, .int .i64 price, .int .i64 nxt, .slice A' L.length c']) ∧ w'.ownsRow w.heap.size 2 1 (.slice A' L.length c') L.length (rc Sx.cells L)) ∧ Below w.heap.size w w' := by
  have hB0 := since_alloc (since_alloc (Below.refl _ w) (.cells #[.int .i64 id, .int .i64 mult, .int .i64 price, .int .i64 nxt, .slice A L.length cap] 92)) (.cells #[.int .i64 0, .int .i64 0, .int .i64 0, .int .i64 0, .slice none 0 0] 92)
  have hV0 : AfIq ((w.alloc (.cells #[.int .i64 id, .int .i64 mult, .int .i64 price, .int .i64 nxt, .slice A L.length cap] 92)).alloc (.cells #[.int .i64 0, .int .i64 0, .int .i64 0, .int .i64 0, .slice none 0 0] 92)) w.heap.size ⟨id, mult, price, nxt, A, L.length, cap⟩ := ⟨(Iq.Bx.new w ⟨id, mult, price, nxt, A, L.length, cap⟩).below ((Below.refl _ _).alloc (Nat.le_refl _) (.cells #[.int .i64 0, .int .i64 0, .int .i64 0, .int .i64 0, .slice none 0 0] 92)), fun i => by simp⟩
  have hZ0 : BzIq ((w.alloc (.cells #[.int .i64 id, .int .i64 mult, .int .i64 price, .int .i64 nxt, .slice A L.length cap] 92)).alloc (.cells #[.int .i64 0, .int .i64 0, .int .i64 0, .int .i64 0, .slice none 0 0] 92)) (w.heap.size + 1) := by have h := BzIq.new (w.alloc (.cells #[.int .i64 id, .int .i64 mult, .int .i64 price, .int .i64 nxt, .slice A L.length cap] 92)); rw [World.size_alloc] at h; exact h
  have hs0 := (hs.alloc (.cells #[.int .i64 id, .int .i64 mult, .int .i64 price, .int .i64 nxt, .slice A L.length cap] 92)).alloc (.cells #[.int .i64 0, .int .i64 0, .int .i64 0, .int .i64 0, .slice none 0 0] 92)
  clear hs
  go_enter Tryz.func133, Tryz.ntmps133
  go_upto_region 1 with fail
  generalize hWW : (w.alloc (.cells #[.int .i64 id, .int .i64 mult, .int .i64 price, .int .i64 nxt, .slice A L.length cap] 92)).alloc (.cells #[.int .i64 0, .int .i64 0, .int .i64 0, .int .i64 0, .slice none 0 0] 92) = w0 at *
  clear hWW
  have hcs := @cell_set
  obtain ⟨q0, q1, q2, q3, q4⟩ := (hV0.bx).got
  simp only at q0 q1 q2 q3 q4
  obtain ⟨z0, z1, z2, z3, z4⟩ := hZ0.got
  have fq := hV0.fz
  have fz := hZ0.fz
  have lq := hV0.bx.lt
  have lz := hZ0.bk.1
  have hzl := hZ0.bk.1
  go_wp2_with fail
  refine (clone_sx A cap L _ (by omega) hs0).mono ?_
  rintro e w1 ⟨⟨A1, c1, rfl, hown⟩, hb⟩
  have hV1 := hV0.below hb
  have hZ1 := hZ0.below hb
  have hB1 := since_step hB0 hb
  clear hb q0 q1 q2 q3 q4 z0 z1 z2 z3 z4 fq fz lq lz
  obtain ⟨q0, q1, q2, q3, q4⟩ := (hV1.bx).got
  simp only at q0 q1 q2 q3 q4
  obtain ⟨z0, z1, z2, z3, z4⟩ := hZ1.got
  have fq := hV1.fz
  have fz := hZ1.fz
  have lq := hV1.bx.lt
  have lz := hZ1.bk.1
  go_wp2_with fail
  refine bodyPost_ret (v := .agg #[.int .i64 id, .int .i64 mult, .int .i64 price, .int .i64 nxt, .slice A1 L.length c1]) ?_ rfl ⟨⟨A1, c1, rfl, own_base ?_ hB0.size⟩, ?_⟩
  · simp [results, Tryz.results133, go_sem, z0, z1, z2, z3, z4, q0, q1, q2, q3, q4, fz, fq, hcs]
  · repeat' (first | with_reducible exact hown | with_reducible refine own_setFar' ?_ ?_ _)
    all_goals first | (simp; done) | (simp; omega)
  · repeat' (first | with_reducible exact hB1 | with_reducible refine Below.setCell ?_ ?_ _ | with_reducible refine Below.alloc ?_ ?_ _)
    all_goals first | (simp; done) | (simp; omega)
end
section
structure Dg (Y A B u d : Nat) : Prop where
  hy : Y = A * 4294967296 + B
  hb : B < 4294967296
  ha : 2147483648 ≤ A
  ha2 : A < 4294967296
  hu : u < Y
  hd : d < 4294967296
theorem lin_lt (qa qb r d M : Nat) (hc : r * M + d < qb) : (qa + r) * M + d < qa * M + qb := by rw [Nat.add_mul]; omega
theorem lin_le (qa qb r d M : Nat) (hc : qb ≤ r * M + d) : qa * M + qb ≤ (qa + r) * M + d := by rw [Nat.add_mul]; omega
theorem lin_end (M q1 Y u2 d0 q0 r : Nat) (e0 : u2 * M + d0 = q0 * Y + r) : (q1 * Y + u2) * M + d0 = (q1 * M + q0) * Y + r := by
  rw [Nat.add_mul, Nat.add_mul, Nat.mul_right_comm q1 M Y]
  generalize q1 * Y * M = a at *
  omega
section digit
variable {Y A B u d : Nat}
def dgQ (Y u d : Nat) : Nat := (u * 4294967296 + d) / Y
theorem Dg.pos (h : Dg Y A B u d) : 0 < Y := by have := h.hu; omega
theorem Dg.q_lt (h : Dg Y A B u d) : dgQ Y u d < 4294967296 := by
  unfold dgQ
  rw [Nat.div_lt_iff_lt_mul h.pos]
  have := h.hu; have := h.hd
  omega
theorem Dg.le (h : Dg Y A B u d) : dgQ Y u d ≤ u / A := by
  have hA : 0 < A := by have := h.ha; omega
  rw [Nat.le_div_iff_mul_le hA]
  have h1 : dgQ Y u d * Y ≤ u * 4294967296 + d := Nat.div_mul_le_self _ _
  have h2 : dgQ Y u d * (A * 4294967296) ≤ dgQ Y u d * Y := Nat.mul_le_mul_left _ (by have := h.hy; omega)
  have h3 : dgQ Y u d * (A * 4294967296) = dgQ Y u d * A * 4294967296 := by rw [Nat.mul_assoc]
  have := h.hd
  omega
theorem Dg.q2 (h : Dg Y A B u d) : u / A ≤ 4294967297 := by
  have hA : 0 < A := by have := h.ha; omega
  have : u / A < 4294967298 := by
    rw [Nat.div_lt_iff_lt_mul hA]
    have := h.hu; have := h.hy; have := h.hb; have := h.ha
    omega
  omega
theorem Dg.more (h : Dg Y A B u d) {q r : Nat} (e : q * A + r = u) (hc : r * 4294967296 + d < q * B) : dgQ Y u d + 1 ≤ q := by
  have : dgQ Y u d < q := by
    unfold dgQ
    have e2 : q * Y = q * A * 4294967296 + q * B := by rw [h.hy, Nat.mul_add q (A * 4294967296) B, Nat.mul_assoc q A 4294967296]
    rw [Nat.div_lt_iff_lt_mul h.pos, e2]
    subst e
    exact lin_lt _ _ _ _ _ hc
  omega
theorem Dg.done (h : Dg Y A B u d) {q r : Nat} (e : q * A + r = u) (hq : dgQ Y u d ≤ q) (hc : q * B ≤ r * 4294967296 + d) : q = dgQ Y u d := by
  have : q ≤ dgQ Y u d := by
    clear hq
    unfold dgQ
    have e2 : q * Y = q * A * 4294967296 + q * B := by rw [h.hy, Nat.mul_add q (A * 4294967296) B, Nat.mul_assoc q A 4294967296]
    rw [Nat.le_div_iff_mul_le h.pos, e2]
    subst e
    exact lin_le _ _ _ _ _ hc
  omega
theorem Dg.broke (h : Dg Y A B u d) {q r : Nat} (e : q * A + r = u) (hq : dgQ Y u d ≤ q) (h2 : q ≤ 4294967296) (hr : 4294967296 ≤ r) : q = dgQ Y u d := by
  refine h.done e hq ?_
  have : q * B ≤ 4294967296 * 4294967295 := Nat.mul_le_mul h2 (by have := h.hb; omega)
  omega
theorem Dg.rest (h : Dg Y A B u d) : dgQ Y u d * Y ≤ u * 4294967296 + d ∧ u * 4294967296 + d - dgQ Y u d * Y < Y := by
  have h1 : dgQ Y u d * Y ≤ u * 4294967296 + d := Nat.div_mul_le_self _ _
  refine ⟨h1, ?_⟩
  have h2 : Y * dgQ Y u d + (u * 4294967296 + d) % Y = u * 4294967296 + d := Nat.div_add_mod _ _
  have h3 : (u * 4294967296 + d) % Y < Y := Nat.mod_lt _ h.pos
  rw [Nat.mul_comm] at h2
  omega
end digit
theorem wrap_quo (u a q : Nat) (hq : q = u / a) (h : q ≤ 4294967297) : IntKind.u64.wrap ((u : Int) / (a : Int)) = (q : Int) := by
  rw [show (u : Int) / (a : Int) = ((u / a : Nat) : Int) from by simp, ← hq, IntKind.wrap_u64]
  omega
theorem wrap_rem (u a q r : Nat) (h : q * a + r = u) (hu : u < 18446744073709551616) : IntKind.u64.wrap ((u : Int) - IntKind.u64.wrap ((q : Int) * (a : Int))) = (r : Int) := by
  rw [show (q : Int) * (a : Int) = ((q * a : Nat) : Int) from by simp, IntKind.wrap_u64, IntKind.wrap_u64]
  generalize q * a = m at *
  omega
theorem wrap_mul (q b m : Nat) (hm : m = q * b) (h : m < 18446744073709551616) : IntKind.u64.wrap ((q : Int) * (b : Int)) = (m : Int) := by
  rw [show (q : Int) * (b : Int) = ((q * b : Nat) : Int) from by simp, ← hm, IntKind.wrap_u64]
  omega
theorem div_start (N hi lo y : Nat) (hNN : N = hi * 18446744073709551616 + lo) (h1 : hi < y) (h2 : y < 18446744073709551616) (h3 : lo < 18446744073709551616) :
    ∃ s Y A B U T T1 T0 : Nat, (64 - (Lib.bitLen (y : Int).toNat : Int)) = (s : Int) ∧ s ≤ 63 ∧ IntKind.u64.wrap ((y : Int) * 2 ^ s) = (Y : Int) ∧ (Y : Int) / 4294967296 = (A : Int) ∧
      bits .and .u64 (Y : Int) 4294967295 = (B : Int) ∧ bits .or .u64 (IntKind.u64.wrap ((hi : Int) * 2 ^ s)) ((lo : Int) / 2 ^ (64 - s)) = (U : Int) ∧
      IntKind.u64.wrap ((lo : Int) * 2 ^ s) = (T : Int) ∧ (T : Int) / 4294967296 = (T1 : Int) ∧ bits .and .u64 (T : Int) 4294967295 = (T0 : Int) ∧
      Dg Y A B U T1 ∧ T0 < 4294967296 ∧ Y < 18446744073709551616 ∧ Y = y * 2 ^ s ∧ N * 2 ^ s = (U * 4294967296 + T1) * 4294967296 + T0 := by
  have hy0 : y ≠ 0 := by clear hNN; omega
  obtain ⟨b1, b2, b3⟩ := Lib.bitLenAux_bounds 64 y (by omega) hy0
  have hbl : Lib.bitLen y = Lib.bitLenAux 64 y := rfl
  rw [← hbl] at b1 b2 b3
  have b4 : Lib.bitLen y ≤ 64 := Lib.bitLen_le y 64 (by omega) (by omega)
  generalize hb : Lib.bitLen y = bl at *
  obtain ⟨s, hs⟩ : ∃ s, s = 64 - bl := ⟨_, rfl⟩
  have hpow : 2 ^ (64 - s) * 2 ^ s = 18446744073709551616 := by
    rw [← Nat.pow_add, show 64 - s + s = 64 from by omega]
  have hYlt : y * 2 ^ s < 18446744073709551616 := by
    rw [← hpow]
    exact Nat.mul_lt_mul_of_pos_right (by rw [show 64 - s = bl from by omega]; exact b3) (Nat.two_pow_pos s)
  have hYge : 9223372036854775808 ≤ y * 2 ^ s := by
    have h5 : 2 ^ (bl - 1) * 2 ^ s ≤ y * 2 ^ s := Nat.mul_le_mul_right _ b2
    rw [← Nat.pow_add, show bl - 1 + s = 63 from by omega] at h5
    exact h5
  have hHlt : hi * 2 ^ s + 2 ^ s ≤ y * 2 ^ s := by
    have := Nat.mul_le_mul_right (2 ^ s) (show hi + 1 ≤ y by omega)
    rwa [Nat.add_mul, Nat.one_mul] at this
  have hLlt : lo / 2 ^ (64 - s) < 2 ^ s := by
    rw [Nat.div_lt_iff_lt_mul (Nat.two_pow_pos _), Nat.mul_comm, hpow]
    exact h3
  have hlo : lo * 2 ^ s = lo / 2 ^ (64 - s) * 18446744073709551616 + lo % 2 ^ (64 - s) * 2 ^ s := by
    conv => lhs; rw [← Nat.div_add_mod lo (2 ^ (64 - s))]
    rw [Nat.add_mul, Nat.mul_comm (2 ^ (64 - s)), Nat.mul_assoc, hpow]
  have hTlt : lo % 2 ^ (64 - s) * 2 ^ s < 18446744073709551616 := by
    rw [← hpow]
    exact Nat.mul_lt_mul_of_pos_right (Nat.mod_lt _ (Nat.two_pow_pos _)) (Nat.two_pow_pos s)
  have c1 : ((y : Int) * 2 ^ s) = ((y * 2 ^ s : Nat) : Int) := by simp
  have c2 : ((hi : Int) * 2 ^ s) = ((hi * 2 ^ s : Nat) : Int) := by simp
  have c3 : ((lo : Int) * 2 ^ s) = ((lo * 2 ^ s : Nat) : Int) := by simp
  have c4 : ((lo : Int) / 2 ^ (64 - s)) = ((lo / 2 ^ (64 - s) : Nat) : Int) := by simp
  have hor : hi * 2 ^ s ||| lo / 2 ^ (64 - s) = hi * 2 ^ s + lo / 2 ^ (64 - s) := nat_join s _ _ (Nat.mul_mod_left _ _) hLlt
  have hN : (hi * 18446744073709551616 + lo) * 2 ^ s = (hi * 2 ^ s + lo / 2 ^ (64 - s)) * 18446744073709551616 + lo % 2 ^ (64 - s) * 2 ^ s := by
    rw [Nat.add_mul, hlo, Nat.mul_assoc, Nat.mul_comm 18446744073709551616 (2 ^ s), ← Nat.mul_assoc]
    omega
  refine ⟨s, y * 2 ^ s, y * 2 ^ s / 4294967296, y * 2 ^ s % 4294967296, hi * 2 ^ s + lo / 2 ^ (64 - s), lo % 2 ^ (64 - s) * 2 ^ s, lo % 2 ^ (64 - s) * 2 ^ s / 4294967296, lo % 2 ^ (64 - s) * 2 ^ s % 4294967296, ?_, by omega, ?_, ?_, ?_, ?_, ?_, ?_, ?_, ⟨by omega, by omega, by omega, by omega, ?_, by omega⟩, by omega, hYlt, rfl, ?_⟩
  · rw [Int.toNat_natCast, hb]; omega
  · rw [c1, IntKind.wrap_u64]; omega
  · omega
  · rw [show (4294967295 : Int) = ((4294967295 : Nat) : Int) from rfl, u64_and_nat _ _ hYlt (by omega)]
    exact congrArg _ (Nat.and_two_pow_sub_one_eq_mod _ 32)
  · rw [c2, c4, IntKind.wrap_u64, show ((hi * 2 ^ s : Nat) : Int) % 18446744073709551616 = ((hi * 2 ^ s : Nat) : Int) from by omega, u64_or_nat _ _ (by omega) (by omega), hor]
  · rw [c3, IntKind.wrap_u64, hlo]; omega
  · omega
  · rw [show (4294967295 : Int) = ((4294967295 : Nat) : Int) from rfl, u64_and_nat _ _ hTlt (by omega)]
    exact congrArg _ (Nat.and_two_pow_sub_one_eq_mod _ 32)
  · omega
  · rw [hNN, hN]; omega
theorem div_end (N y s Y u d1 d0 q1 u2 q0 r : Nat) (hY : Y = y * 2 ^ s) (hN : N * 2 ^ s = (u * 4294967296 + d1) * 4294967296 + d0) (e1 : u * 4294967296 + d1 = q1 * Y + u2)
    (e0 : u2 * 4294967296 + d0 = q0 * Y + r) (hr : r < Y) : N / y = q1 * 4294967296 + q0 ∧ r / 2 ^ s = N % y := by
  have hp := Nat.two_pow_pos s
  have hy : 0 < y := by
    rcases Nat.eq_zero_or_pos y with h | h
    · rw [h, Nat.zero_mul] at hY; omega
    · exact h
  have key : N * 2 ^ s = (q1 * 4294967296 + q0) * Y + r := by
    rw [hN, e1]
    exact lin_end _ _ _ _ _ _ _ e0
  rw [hY, ← Nat.mul_assoc] at key
  have hle : (q1 * 4294967296 + q0) * y ≤ N := by
    have h5 : (q1 * 4294967296 + q0) * y * 2 ^ s ≤ N * 2 ^ s := by omega
    exact Nat.le_of_mul_le_mul_right h5 hp
  obtain ⟨t, ht⟩ := Nat.exists_eq_add_of_le hle
  rw [ht, Nat.add_mul] at key
  have hrt : r = t * 2 ^ s := by omega
  have htl : t < y := by
    rw [hrt, hY] at hr
    exact Nat.lt_of_mul_lt_mul_right hr
  rw [ht, hrt, Nat.mul_div_cancel _ hp, Nat.mul_comm _ y]
  refine ⟨?_, ?_⟩
  · rw [Nat.mul_add_div hy, Nat.div_eq_of_lt htl, Nat.add_zero]
  · rw [Nat.mul_add_mod, Nat.mod_eq_of_lt htl]
theorem rest_val (U T Q Y u2 : Nat) (h : U * 4294967296 + T = Q * Y + u2) (h2 : u2 < 18446744073709551616) :
    IntKind.u64.wrap (IntKind.u64.wrap (IntKind.u64.wrap ((U : Int) * 4294967296) + (T : Int)) - IntKind.u64.wrap ((Q : Int) * (Y : Int))) = (u2 : Int) := by
  rw [show (Q : Int) * (Y : Int) = ((Q * Y : Nat) : Int) from by simp, IntKind.wrap_u64, IntKind.wrap_u64, IntKind.wrap_u64, IntKind.wrap_u64]
  generalize Q * Y = m at *
  omega
theorem both_val (Q1 Q0 z : Nat) (h1 : Q1 < 4294967296) (h0 : Q0 < 4294967296) (hz : z = Q1 * 4294967296 + Q0) : IntKind.u64.wrap (IntKind.u64.wrap ((Q1 : Int) * 4294967296) + (Q0 : Int)) = (z : Int) := by
  rw [IntKind.wrap_u64, IntKind.wrap_u64]
  omega
theorem Dg.u2 {Y A B u d u2 : Nat} (h : Dg Y A B u d) (hu : u2 = u * 4294967296 + d - dgQ Y u d * Y) : u * 4294967296 + d = dgQ Y u d * Y + u2 ∧ u2 < Y := by
  obtain ⟨h1, h2⟩ := h.rest
  rw [hu]
  refine ⟨?_, h2⟩
  generalize dgQ Y u d * Y = m at *
  omega
end
end Go.Proofs.YtmjndpkfhdoljaaGreat
