import Derived.Test.YtldnponbkhgijaaDoorIt00
import Derived.BigQuiet
import Derived.Deep.QuietTactic
import Derived.IntWalk
import Derived.BigRegion
import Derived.Deep.RegionWith
import Derived.Deep.DeepCutAuto
import Derived.Test.YtldnponbkhgijaaDoorIt01
import Derived.Deep.RegionHeld3
import Derived.Lib.ItoaNum
import Derived.Deep.CutBlock
import Derived.Deep.CutRange
section
namespace Go.Proofs.YtldnponbkhgijaaDoor
open Go.ChangeShapes Go.WideShapes Go.ChangeAt Go.RowKit
set_option linter.unusedVariables false
set_option linter.unusedSimpArgs false

def bval : List Nat → Nat
  | [] => 0
  | b :: l => b + 2 * bval l
def Bin (l : List Nat) : Prop := ∀ b ∈ l, b ≤ 1
def Norm (l : List Nat) : Prop := Bin l ∧ ∀ k, (h : k < l.length) → l.length = k + 1 → l[k] = 1
theorem Bin.nil : Bin [] := fun b h => by cases h
theorem Norm.nil : Norm [] := ⟨Bin.nil, fun k h => by simp at h⟩
theorem Bin.take {l : List Nat} (h : Bin l) (n : Nat) : Bin (l.take n) := fun b hb => h b (List.mem_of_mem_take hb)
theorem Bin.app {a b : List Nat} (h : Bin a) (k : Bin b) : Bin (a ++ b) := fun x hx => by
  rcases List.mem_append.1 hx with h' | h'
  · exact h x h'
  · exact k x h'
theorem Bin.at_ {l : List Nat} (h : Bin l) {k : Nat} (hk : k < l.length) : l[k] ≤ 1 := h _ (List.getElem_mem hk)
theorem bval_append (a b : List Nat) : bval (a ++ b) = bval a + 2 ^ a.length * bval b := by
  induction a with
  | nil => simp [bval]
  | cons x a ih =>
    simp only [List.cons_append, bval, ih, List.length_cons, Nat.pow_succ]
    rw [Nat.mul_add, Nat.mul_comm (2 ^ a.length) 2, Nat.mul_assoc]
    omega
theorem bval_snoc (a : List Nat) (x : Nat) : bval (a ++ [x]) = bval a + 2 ^ a.length * x := by
  rw [bval_append]; simp [bval]
theorem bval_take (l : List Nat) (k : Nat) (h : k < l.length) : bval (l.take (k + 1)) = bval (l.take k) + 2 ^ k * l[k] := by
  rw [take_snoc l k h, bval_snoc, List.length_take, Nat.min_eq_left (by omega)]
theorem bval_lt {l : List Nat} (h : Bin l) : bval l < 2 ^ l.length := by
  induction l with
  | nil => simp [bval]
  | cons x l ih =>
    have := ih fun b hb => h b (by simp [hb])
    have h1 := h x (by simp)
    simp only [bval, List.length_cons, Nat.pow_succ]
    omega
theorem Norm.ge {l : List Nat} (h : Norm l) {k : Nat} (hk : l.length = k + 1) : 2 ^ k ≤ bval l := by
  have h1 := bval_take l k (by omega)
  rw [List.take_of_length_le (by omega), h.2 k (by omega) hk] at h1
  omega
theorem Norm.zero {l : List Nat} (h : Norm l) : bval l = 0 ↔ l = [] := by
  constructor
  · intro e
    cases hl : l.length with
    | zero => exact List.eq_nil_of_length_eq_zero hl
    | succ k => have := h.ge hl; have := Nat.pow_pos (n := k) (show 0 < 2 by omega); omega
  · rintro rfl; rfl
theorem Norm.len_le {l : List Nat} (h : Norm l) {n : Nat} (hv : bval l < 2 ^ n) : l.length ≤ n := by
  cases hl : l.length with
  | zero => omega
  | succ k =>
    have h1 := h.ge hl
    refine Decidable.byContradiction fun hn => ?_
    have : 2 ^ n ≤ 2 ^ k := Nat.pow_le_pow_right (by omega) (by omega)
    omega
theorem Norm.len_iff {l : List Nat} (h : Norm l) (n : Nat) : l.length ≤ n ↔ bval l < 2 ^ n := by
  refine ⟨fun hl => ?_, h.len_le⟩
  have := bval_lt h.1
  have : 2 ^ l.length ≤ 2 ^ n := Nat.pow_le_pow_right (by omega) hl
  omega
structure BigAt (w : World) (neg : Bool) (A : Option Addr) (n c : Nat) (z : Int) : Prop where
  ex : ∃ bits : List Nat, bits.length = n ∧ n ≤ c ∧ c ≤ maxLen ∧ Sl w A (by8 bits) ∧ Norm bits ∧ (neg = true → bits ≠ []) ∧ z = if neg = true then -(bval bits : Int) else (bval bits : Int)
theorem BigAt.below {w w' : World} {neg : Bool} {A : Option Addr} {n c : Nat} {z : Int} (h : BigAt w neg A n c z) (hb : Below w.heap.size w w') : BigAt w' neg A n c z := by
  obtain ⟨bits, h1, h2, h3, h4, h5, h6, h7⟩ := h.ex
  exact ⟨bits, h1, h2, h3, h4.below hb, h5, h6, h7⟩
theorem BigAt.alloc {w : World} {neg : Bool} {A : Option Addr} {n c : Nat} {z : Int} (h : BigAt w neg A n c z) (o : Obj) : BigAt (w.alloc o) neg A n c z := h.below ((Below.refl _ _).alloc (Nat.le_refl _) o)
theorem BigAt.drew {w : World} {neg : Bool} {A : Option Addr} {n c : Nat} {z : Int} (h : BigAt w neg A n c z) : BigAt w.drew neg A n c z := h.below ⟨rfl, rfl, rfl, Nat.le_refl _, fun _ _ => rfl⟩
theorem BigAt.zero (w : World) : BigAt w false none 0 0 0 := ⟨[], rfl, Nat.le_refl _, by decide, Sl.nil, Norm.nil, (fun h => nomatch h), rfl⟩
theorem BigAt.len {w : World} {neg : Bool} {A : Option Addr} {n c : Nat} {z : Int} (h : BigAt w neg A n c z) {k : Nat} : n ≤ k ↔ z.natAbs < 2 ^ k := by
  obtain ⟨bits, h1, h2, h3, h4, h5, h6, h7⟩ := h.ex
  rw [← h1, h5.len_iff, h7]
  cases neg <;> simp
end Go.Proofs.YtldnponbkhgijaaDoor
end
section
namespace Go.Proofs.YtldnponbkhgijaaDoor
open Go.ChangeShapes Go.WideShapes Go.ChangeAt Go.RowKit
set_option linter.unusedVariables false
set_option linter.unusedSimpArgs false

def RB (w : World) (g : Nat) : Prop := g < w.heap.size ∧ w.cell? ⟨g, 0, none⟩ = some (.bool false) ∧ w.cell? ⟨g, 1, none⟩ = some (.slice none 0 0) ∧ ∀ i, w.frozen? ⟨g, i, none⟩ = false
theorem RB.new (w : World) (t : TypeId) : RB (w.alloc (.cells #[.bool false, .slice none 0 0] t)) w.heap.size := ⟨by simp, by simp, by simp, fun i => by simp⟩
theorem RB.far {w w' : World} {B g : Nat} (h : RB w g) (hb : Below B w w') (hg : g < B) : RB w' g :=
  ⟨Nat.lt_of_lt_of_le h.1 hb.size, (hb.cell (p := ⟨g, 0, none⟩) hg).trans h.2.1, (hb.cell (p := ⟨g, 1, none⟩) hg).trans h.2.2.1, fun i => (hb.frozen (p := ⟨g, i, none⟩) hg).trans (h.2.2.2 i)⟩
theorem RB.below {w w' : World} {g : Nat} (h : RB w g) (hb : Below w.heap.size w w') : RB w' g := h.far hb h.1
theorem RB.alloc {w : World} {g : Nat} (h : RB w g) (o : Obj) : RB (w.alloc o) g := h.below ((Below.refl _ _).alloc (Nat.le_refl _) o)
def Fr (B : Nat) (A : Option Addr) (n : Nat) : Prop := ∀ b o, A = some ⟨b, o, none⟩ → 0 < n → B ≤ b
theorem Fr.own {w : World} {base : Nat} {e : TypeId} {size n c : Nat} {A : Option Addr} {xs : List Value} (h : w.ownsRow base e size (.slice A n c) n xs) : Fr base A n := by
  intro b o hA hn
  obtain ⟨g, e1, e2, _⟩ := own_at h hn
  rw [hA] at e1
  injection e1 with e1
  injection e1 with e1
  omega
theorem Fr.le {B B' : Nat} {A : Option Addr} {n m : Nat} (h : Fr B A n) (hB : B' ≤ B) (hm : m ≤ n) : Fr B' A m := fun b o hA hn => by
  have := h b o hA (by omega)
  omega
theorem BigAt.far {w : World} {neg : Bool} {A : Option Addr} {n c : Nat} {z : Int} (h : BigAt w neg A n c z) {p : Addr} (hp : ∀ b o, A = some ⟨b, o, none⟩ → 0 < n → b ≠ p.block) (v : Value) : BigAt (w.setCell p v) neg A n c z := by
  obtain ⟨bits, h1, h2, h3, h4, h5, h6, h7⟩ := h.ex
  refine ⟨bits, h1, h2, h3, ?_, h5, h6, h7⟩
  rcases Nat.eq_zero_or_pos n with h0 | h0
  · rw [h0] at h1
    rw [List.eq_nil_of_length_eq_zero h1]
    exact Sl.nil
  · exact h4.far (fun b o hA => hp b o hA h0) v
end Go.Proofs.YtldnponbkhgijaaDoor
end
section
namespace Go.Proofs.YtldnponbkhgijaaDoor
open Go.ChangeShapes Go.WideShapes Go.ChangeAt Go.RowKit
set_option linter.unusedVariables false
set_option linter.unusedSimpArgs false

def BB (w : World) (g : Nat) (s : Bool) (A : Option Addr) (n c : Nat) : Prop := g < w.heap.size ∧ w.cell? ⟨g, 0, none⟩ = some (.bool s) ∧ w.cell? ⟨g, 1, none⟩ = some (.slice A n c) ∧ w.frozen? ⟨g, 0, none⟩ = false ∧ w.frozen? ⟨g, 1, none⟩ = false
section
variable {w w' : World} {g : Nat} {s : Bool} {A : Option Addr} {n c : Nat}
theorem BB.new (w : World) (s : Bool) (A : Option Addr) (n c : Nat) (t : TypeId) : BB (w.alloc (.cells #[.bool s, .slice A n c] t)) w.heap.size s A n c := by
  refine ⟨by simp, ?_, ?_, ?_, ?_⟩ <;> simp
theorem BB.below (h : BB w g s A n c) (hb : Below w.heap.size w w') : BB w' g s A n c := by
  obtain ⟨h0, h1, h2, f1, f2⟩ := h
  exact ⟨Nat.lt_of_lt_of_le h0 hb.size, (hb.cell (p := ⟨g, 0, none⟩) h0).trans h1, (hb.cell (p := ⟨g, 1, none⟩) h0).trans h2, (hb.frozen (p := ⟨g, 0, none⟩) h0).trans f1, (hb.frozen (p := ⟨g, 1, none⟩) h0).trans f2⟩
theorem BB.alloc (h : BB w g s A n c) (o : Obj) : BB (w.alloc o) g s A n c := h.below ((Below.refl _ _).alloc (Nat.le_refl _) o)
theorem BB.drew (h : BB w g s A n c) : BB w.drew g s A n c := h
end
theorem BigAt.lt {w : World} {neg : Bool} {A : Option Addr} {n c : Nat} {z : Int} (h : BigAt w neg A n c z) : ∀ b o, A = some ⟨b, o, none⟩ → 0 < n → b < w.heap.size := by
  intro b o hA hn
  obtain ⟨bits, h1, h2, h3, h4, _⟩ := h.ex
  obtain ⟨b', o', e, hc⟩ := h4.byte (j := 0) (by omega)
  rw [hA] at e
  injection e with e
  injection e with e1 e2
  subst e1
  exact World.block_lt_of_cell? _ _ hc
end Go.Proofs.YtldnponbkhgijaaDoor
end
section
namespace Go.Proofs.YtldnponbkhgijaaDoor
open Go.ChangeShapes Go.WideShapes Go.ChangeAt Go.RowKit
set_option linter.unusedVariables false
set_option linter.unusedSimpArgs false

def bigR (w w' : World) (e : Ending) (z : Int) : Prop := ∃ s A n c, e = .returned (.agg #[.bool s, .slice A n c]) ∧ Fr w.heap.size A n ∧ BigAt w' s A n c z
theorem bigR.of {w w' : World} {e : Ending} {z : Int} (h : ∃ A n c, e = .returned (.agg #[.bool (decide (z < 0)), .slice A n c]) ∧ Fr w.heap.size A n ∧ BigAt w' (decide (z < 0)) A n c z) : bigR w w' e z := ⟨_, h⟩
section
variable {w w1 w2 : World} {sx sy s : Bool} {A B C : Option Addr} {na nb n ca cb c : Nat} {x y z : Int}
end


def inN (x : Int) (m : Nat) : Prop := (if x < 0 then (x + 1).natAbs else x.natAbs) < 2 ^ m
instance (x : Int) (m : Nat) : Decidable (inN x m) := by unfold inN; infer_instance
end Go.Proofs.YtldnponbkhgijaaDoor
end
section
namespace Go.Proofs.YtldnponbkhgijaaDoor
open Go.ChangeShapes Go.WideShapes Go.ChangeAt Go.RowKit
set_option linter.unusedVariables false
set_option linter.unusedSimpArgs false

theorem T2.set2 {w : World} {g : Nat} {a b : Int} (h : T2 w g a b) (c d : Int) : T2 ((w.setCell ⟨g, 0, none⟩ (.int .i64 c)).setCell ⟨g, 1, none⟩ (.int .u64 d)) g c d := by
  obtain ⟨h0, h1, h2, f1, f2⟩ := h
  refine ⟨by simpa using h0, ?_, ?_, by simpa using f1, by simpa using f2⟩ <;> simp [cell_set, h1, h2]
theorem BB.set2 {w : World} {g : Nat} {s : Bool} {A : Option Addr} {n c : Nat} (h : BB w g s A n c) (s' : Bool) (A' : Option Addr) (n' c' : Nat) : BB ((w.setCell ⟨g, 0, none⟩ (.bool s')).setCell ⟨g, 1, none⟩ (.slice A' n' c')) g s' A' n' c' := by
  obtain ⟨h0, h1, h2, f1, f2⟩ := h
  refine ⟨by simpa using h0, ?_, ?_, by simpa using f1, by simpa using f2⟩ <;> simp [cell_set, h1, h2]
theorem BB.far {w : World} {g : Nat} {s : Bool} {A : Option Addr} {n c : Nat} (h : BB w g s A n c) {p : Addr} (hp : p.block ≠ g) (v : Value) : BB (w.setCell p v) g s A n c := by
  obtain ⟨h0, h1, h2, f1, f2⟩ := h
  have k : ∀ o, (w.setCell p v).cell? ⟨g, o, none⟩ = w.cell? ⟨g, o, none⟩ := fun o => World.cell?_setCell_other w _ _ _ (by rintro rfl; exact hp rfl)
  exact ⟨by simpa using h0, (k 0).trans h1, (k 1).trans h2, by simpa using f1, by simpa using f2⟩
end Go.Proofs.YtldnponbkhgijaaDoor
end
section
namespace Go.Proofs.YtldnponbkhgijaaDoor
open Go.ChangeShapes Go.WideShapes Go.ChangeAt Go.RowKit
set_option linter.unusedVariables false
set_option linter.unusedSimpArgs false

def All64 (l : List Int) : Prop := ∀ x ∈ l, In64 x
end Go.Proofs.YtldnponbkhgijaaDoor
end
section
namespace Go.Proofs.YtldnponbkhgijaaDoor
open Go.ChangeShapes Go.WideShapes Go.ChangeAt Go.RowKit
set_option linter.unusedVariables false
set_option linter.unusedSimpArgs false

structure Dg (Y A B u d : Nat) : Prop where
  hy : Y = A * 4294967296 + B
  hb : B < 4294967296
  ha : 2147483648 ≤ A
  ha2 : A < 4294967296
  hu : u < Y
  hd : d < 4294967296
theorem lin_le (qa qb r d M : Nat) (hc : qb ≤ r * M + d) : qa * M + qb ≤ (qa + r) * M + d := by rw [Nat.add_mul]; omega
section digit
variable {Y A B u d : Nat}
def dgQ (Y u d : Nat) : Nat := (u * 4294967296 + d) / Y
theorem Dg.pos (h : Dg Y A B u d) : 0 < Y := by have := h.hu; omega
theorem Dg.le (h : Dg Y A B u d) : dgQ Y u d ≤ u / A := by
  have hA : 0 < A := by have := h.ha; omega
  rw [Nat.le_div_iff_mul_le hA]
  have h1 : dgQ Y u d * Y ≤ u * 4294967296 + d := Nat.div_mul_le_self _ _
  have h2 : dgQ Y u d * (A * 4294967296) ≤ dgQ Y u d * Y := Nat.mul_le_mul_left _ (by have := h.hy; omega)
  have h3 : dgQ Y u d * (A * 4294967296) = dgQ Y u d * A * 4294967296 := by rw [Nat.mul_assoc]
  have := h.hd
  omega
theorem Dg.q2 (h : Dg Y A B u d) : u / A ≤ 4294967297 := by
  have hA : 0 < A := by have := h.ha; omega
  have : u / A < 4294967298 := by
    rw [Nat.div_lt_iff_lt_mul hA]
    have := h.hu; have := h.hy; have := h.hb; have := h.ha
    omega
  omega
theorem Dg.done (h : Dg Y A B u d) {q r : Nat} (e : q * A + r = u) (hq : dgQ Y u d ≤ q) (hc : q * B ≤ r * 4294967296 + d) : q = dgQ Y u d := by
  have : q ≤ dgQ Y u d := by
    clear hq
    unfold dgQ
    have e2 : q * Y = q * A * 4294967296 + q * B := by rw [h.hy, Nat.mul_add q (A * 4294967296) B, Nat.mul_assoc q A 4294967296]
    rw [Nat.le_div_iff_mul_le h.pos, e2]
    subst e
    exact lin_le _ _ _ _ _ hc
  omega
theorem Dg.rest (h : Dg Y A B u d) : dgQ Y u d * Y ≤ u * 4294967296 + d ∧ u * 4294967296 + d - dgQ Y u d * Y < Y := by
  have h1 : dgQ Y u d * Y ≤ u * 4294967296 + d := Nat.div_mul_le_self _ _
  refine ⟨h1, ?_⟩
  have h2 : Y * dgQ Y u d + (u * 4294967296 + d) % Y = u * 4294967296 + d := Nat.div_add_mod _ _
  have h3 : (u * 4294967296 + d) % Y < Y := Nat.mod_lt _ h.pos
  rw [Nat.mul_comm] at h2
  omega
end digit
theorem Dg.u2 {Y A B u d u2 : Nat} (h : Dg Y A B u d) (hu : u2 = u * 4294967296 + d - dgQ Y u d * Y) : u * 4294967296 + d = dgQ Y u d * Y + u2 ∧ u2 < Y := by
  obtain ⟨h1, h2⟩ := h.rest
  rw [hu]
  refine ⟨?_, h2⟩
  generalize dgQ Y u d * Y = m at *
  omega
end Go.Proofs.YtldnponbkhgijaaDoor
end
section
namespace Go.Proofs.YtldnponbkhgijaaDoor
open Go.ChangeShapes Go.WideShapes Go.ChangeAt Go.RowKit
set_option linter.unusedVariables false
set_option linter.unusedSimpArgs false
theorem BB.new1 (w : World) (o : Obj) (s : Bool) (A : Option Addr) (n c : Nat) (t : TypeId) : BB ((w.alloc o).alloc (.cells #[.bool s, .slice A n c] t)) (w.heap.size + 1) s A n c := by
  have := BB.new (w.alloc o) s A n c t
  rwa [World.size_alloc] at this
end Go.Proofs.YtldnponbkhgijaaDoor
end
section
namespace Go.Proofs.YtldnponbkhgijaaDoor
open Go.ChangeShapes Go.WideShapes Go.ChangeAt Go.RowKit
set_option linter.unusedVariables false
set_option linter.unusedSimpArgs false

theorem All64.ofI {l : List Int} (h : ∀ x ∈ l, (Lit.int .i64 x).wf = true) : All64 l := fun x hx => bd_i64 (h x hx)
theorem All64.takeI {l : List Int} (h : All64 l) (n : Nat) : All64 (l.take n) := fun x hx => h x (List.mem_of_mem_take hx)
theorem sl_takeI {w : World} {A : Option Addr} {l : List Int} (h : Sl w A (ints .i64 l)) (n : Nat) : Sl w A (ints .i64 (l.take n)) := by
  have e : ints .i64 (l.take n) = (ints .i64 l).take n := by simp [ints, List.map_take]
  rw [e]; exact h.take n
structure Ins where
  (id mult price nxt : Int)
  mv : List Int
def insV (i : Ins) (A : Option Addr) (c : Nat) : Value := .agg #[.int .i64 i.id, .int .i64 i.mult, .int .i64 i.price, .int .i64 i.nxt, .slice A i.mv.length c]
structure InsAt (w : World) (i : Ins) (A : Option Addr) (c : Nat) : Prop where
  cap : i.mv.length ≤ c ∧ c ≤ maxLen
  sl : Sl w A (ints .i64 i.mv)
  mv64 : All64 i.mv
  n64 : In64 i.id ∧ In64 i.mult ∧ In64 i.price ∧ In64 i.nxt
theorem InsAt.below {w w' : World} {i : Ins} {A : Option Addr} {c : Nat} (h : InsAt w i A c) (hb : Below w.heap.size w w') : InsAt w' i A c := ⟨h.cap, h.sl.below hb, h.mv64, h.n64⟩
theorem rd_inst {w : World} {a : Array Value} (h : Rd w (.cat (.int .i64) (.cat (.int .i64) (.cat (.int .i64) (.cat (.int .i64) (.cat (.sl (.int .i64)) .nil))))) a.toList) : ∃ (i : Ins) (A : Option Addr) (c : Nat), Value.agg a = insV i A c ∧ InsAt w i A c := by
  obtain ⟨x1, y1, e1, ⟨n1, rfl, w1⟩, x2, y2, rfl, ⟨n2, rfl, w2⟩, x3, y3, rfl, ⟨n3, rfl, w3⟩, x4, y4, rfl, ⟨n4, rfl, w4⟩, x5, y5, rfl, h5, rfl⟩ := h
  obtain ⟨A, n, c, rows, e5, r⟩ := id h5
  subst e5
  obtain ⟨l, hl, hc, hm, hs, hw⟩ := rd_ints h5
  refine ⟨⟨n1, n2, n3, n4, l⟩, A, c, ?_, ⟨⟨by rw [hl]; exact hc, hm⟩, hs, All64.ofI hw, bd_i64 w1, bd_i64 w2, bd_i64 w3, bd_i64 w4⟩⟩
  have : a = #[.int .i64 n1, .int .i64 n2, .int .i64 n3, .int .i64 n4, .slice A n c] := by
    apply Array.ext'
    rw [e1]
    rfl
  rw [this]
  unfold insV
  rw [hl]
def prB (p : Int) : Bool := decide (0 ≤ p) && decide (p ≤ 2147483647)
def mvB (m : Int) : Bool := decide (-2147483647 ≤ m) && decide (m ≤ 2147483647)
def headB (i : Ins) : Bool := decide (1 ≤ i.id) && decide (i.id ≤ 8) && decide (1 ≤ i.mult) && decide (i.mult ≤ 65536) && prB i.price && prB i.nxt && decide (i.mv.length ≤ 8)
def okB (i : Ins) : Bool := headB i && i.mv.all mvB
theorem priced_any (p : Int) (w : World) : Calls Tryd.prog 20 #[.int .i64 p] w fun e w' => e = .returned (.bool (prB p)) ∧ w' = w := by
  unfold prB
  by_cases h : 0 ≤ p
  · by_cases h2 : p ≤ 2147483647
    · go_enter Tryd.func20, Tryd.ntmps20
      go_wp2
      go_ret
      exact ⟨by simp [h, h2], rfl⟩
    · go_enter Tryd.func20, Tryd.ntmps20
      go_wp2
      go_ret
      exact ⟨by simp [h, h2], rfl⟩
  · go_enter Tryd.func20, Tryd.ntmps20
    go_wp2
    go_ret
    exact ⟨by simp; omega, rfl⟩
theorem rprice_any (p : Int) (w : World) : Calls Tryd.prog 21 #[.int .i64 p] w fun e w' => e = .returned (.bool (prB p)) ∧ w' = w := by
  unfold prB
  by_cases h : 0 ≤ p
  · by_cases h2 : p ≤ 2147483647
    · have h3 : p < 2147483648 := by omega
      go_enter Tryd.func21, Tryd.ntmps21
      go_wp2
      go_ret
      exact ⟨by simp [h, h2], rfl⟩
    · have h3 : ¬ p < 2147483648 := by omega
      go_enter Tryd.func21, Tryd.ntmps21
      go_wp2
      go_ret
      exact ⟨by simp [h, h2], rfl⟩
  · go_enter Tryd.func21, Tryd.ntmps21
    go_wp2
    go_ret
    exact ⟨by simp; omega, rfl⟩
def x_out (m : Int) : Prop := m < -2147483647 ∨ (¬ m < -2147483647 ∧ 2147483647 < m)
def IB (w : World) (g : Nat) (i : Ins) (A : Option Addr) (c : Nat) : Prop := g < w.heap.size ∧ w.cell? ⟨g, 0, none⟩ = some (.int .i64 i.id) ∧ w.cell? ⟨g, 1, none⟩ = some (.int .i64 i.mult) ∧ w.cell? ⟨g, 2, none⟩ = some (.int .i64 i.price) ∧
  w.cell? ⟨g, 3, none⟩ = some (.int .i64 i.nxt) ∧ w.cell? ⟨g, 4, none⟩ = some (.slice A i.mv.length c)
theorem IB.new (w : World) (i : Ins) (A : Option Addr) (c : Nat) (t : TypeId) : IB (w.alloc (.cells #[.int .i64 i.id, .int .i64 i.mult, .int .i64 i.price, .int .i64 i.nxt, .slice A i.mv.length c] t)) w.heap.size i A c := by
  refine ⟨?_, ?_, ?_, ?_, ?_, ?_⟩ <;> simp
theorem IB.far {w w' : World} {B g : Nat} {i : Ins} {A : Option Addr} {c : Nat} (h : IB w g i A c) (hb : Below B w w') (hg : g < B) : IB w' g i A c :=
  ⟨Nat.lt_of_lt_of_le h.1 hb.size, (hb.cell (p := ⟨g, 0, none⟩) hg).trans h.2.1, (hb.cell (p := ⟨g, 1, none⟩) hg).trans h.2.2.1, (hb.cell (p := ⟨g, 2, none⟩) hg).trans h.2.2.2.1, (hb.cell (p := ⟨g, 3, none⟩) hg).trans h.2.2.2.2.1, (hb.cell (p := ⟨g, 4, none⟩) hg).trans h.2.2.2.2.2⟩
theorem IB.below {w w' : World} {g : Nat} {i : Ins} {A : Option Addr} {c : Nat} (h : IB w g i A c) (hb : Below w.heap.size w w') : IB w' g i A c := h.far hb h.1
-- CHECKS
set_option maxRecDepth 100000 in
set_option maxHeartbeats 4000000 in
theorem check_any (i : Ins) (A : Option Addr) (c : Nat) (w : World) (h : InsAt w i A c) :
    Calls Tryd.prog 7 #[insV i A c] w fun e w' => e = .returned (.int .i64 (if okB i = true then 0 else 2)) ∧ Below w.heap.size w w' := by
  obtain ⟨⟨hc1, hc2⟩, hs, h64, hn⟩ := h
  obtain ⟨id, mult, price, nxt, mv⟩ := i
  simp only at *
  obtain ⟨RV, hRV⟩ : ∃ v : Value, v = .int .i64 (if okB ⟨id, mult, price, nxt, mv⟩ = true then 0 else 2) := ⟨_, rfl⟩
  rw [← hRV]
  have HRV := Lib.hid hRV
  clear hRV
  have HP := fun p w => priced_any p w
  have hB0 := since_alloc (Below.refl _ w) (.cells #[.int .i64 id, .int .i64 mult, .int .i64 price, .int .i64 nxt, .slice A mv.length c] 25)
  have hI0 := IB.new w ⟨id, mult, price, nxt, mv⟩ A c 25
  by_cases hh : headB ⟨id, mult, price, nxt, mv⟩ = true
  · have hh' := hh
    simp only [headB, Bool.and_eq_true, decide_eq_true_eq] at hh'
    obtain ⟨⟨⟨⟨⟨⟨k1, k2⟩, k3⟩, k4⟩, k5⟩, k6⟩, k7⟩ := hh'
    have hok : okB ⟨id, mult, price, nxt, mv⟩ = mv.all mvB := by unfold okB; rw [hh]; rfl
    have HOK := Lib.hid hok
    have H5 := Lib.hid k5
    have H6 := Lib.hid k6
    have HA : Hid (∀ k, (hk : k < mv.length) → mvB mv[k] = false → mv.all mvB = false) := Lib.hid (fun k hk h => by
      rw [Bool.eq_false_iff]; intro ha
      rw [List.all_eq_true] at ha
      rw [ha _ (List.getElem_mem hk)] at h
      cases h)
    have HT : Hid ((∀ k, (hk : k < mv.length) → mvB mv[k] = true) → mv.all mvB = true) := Lib.hid (fun h => by
      rw [List.all_eq_true]
      intro x hx
      obtain ⟨k, hk, rfl⟩ := List.getElem_of_mem hx
      exact h k hk)
    have l1 : decide (id < 1) = false := decide_eq_false (by omega)
    have l2 : decide (8 < id) = false := decide_eq_false (by omega)
    have l3 : decide (mult < 1) = false := decide_eq_false (by omega)
    have l4 : decide (65536 < mult) = false := decide_eq_false (by omega)
    have l5 : decide ((8 : Int) < (mv.length : Int)) = false := decide_eq_false (by omega)
    clear hh hok k5 k6
    have HI0 := Lib.hid hI0
    clear hI0
    unfold insV
    go_enter Tryd.func7, Tryd.ntmps7
    go_wp2_with fail
    refine (HP _ _).mono ?_
    rintro e w1 ⟨rfl, rfl⟩
    rw [H5.out]
    go_wp2_with fail
    refine (HP _ _).mono ?_
    rintro e w1 ⟨rfl, rfl⟩
    rw [H6.out]
    go_wp2_with fail
    go_loopw [44] (fun s wr => ∃ k : Nat, k ≤ mv.length ∧ s = .int .i64 k ∧ Hid (∀ j, (hj : j < mv.length) → j < k → mvB mv[j] = true) ∧ IB wr w.heap.size ⟨id, mult, price, nxt, mv⟩ A c ∧ Below w.heap.size w wr) (fun s _ => mv.length - (intOf s).toNat)
    case atStart => exact ⟨0, by omega, rfl, Lib.hid (fun j hj h => absurd h (by omega)), HI0.out, hB0⟩
    case round =>
      obtain ⟨k, hk, rfl, HK, hI, hB⟩ := hrel
      obtain ⟨i0, i1, i2, i3, i4, i5⟩ := _root_.id hI
      simp only at i1 i2 i3 i4 i5
      by_cases hlt : k < mv.length
      · obtain ⟨b, o, rfl, hz⟩ := (hs.below hB).int hlt
        have hbr := World.block_lt_of_cell? _ _ hz
        by_cases hm : mvB mv[k] = true
        · have HK2 : Hid (∀ j, (hj : j < mv.length) → j < k + 1 → mvB mv[j] = true) := Lib.hid (fun j hj h => by
            rcases Nat.lt_or_ge j k with h' | h'
            · exact HK.out j hj h'
            · obtain rfl : j = k := by omega
              exact hm)
          simp only [mvB, Bool.and_eq_true, decide_eq_true_eq] at hm
          generalize mv[k] = x at *
          go_wp2
          go_roundw
          case rel => exact ⟨k + 1, by omega, by go_num, HK2, hI, hB⟩
          case measure => simp [intOf]; omega
        · have E := Lib.hid (HA.out k hlt (by simpa using hm))
          have hm2 : x_out mv[k] := by
            unfold x_out
            simp only [mvB, Bool.and_eq_true, decide_eq_true_eq] at hm
            omega
          unfold x_out at hm2
          clear hm
          generalize mv[k] = x at *
          rcases hm2 with hm2 | ⟨hm2, hm3⟩
          · go_wp2
            go_ret
            exact ⟨by rw [HRV.out, HOK.out, E.out]; rfl, hB⟩
          · go_wp2
            go_ret
            exact ⟨by rw [HRV.out, HOK.out, E.out]; rfl, hB⟩
      · obtain rfl : k = mv.length := by omega
        have E := Lib.hid (HT.out fun j hj => HK.out j hj hj)
        go_wp2
        go_ret
        exact ⟨by rw [HRV.out, HOK.out, E.out]; rfl, hB⟩
  · have HF : Hid (okB ⟨id, mult, price, nxt, mv⟩ = false) := Lib.hid (by unfold okB; rw [Bool.eq_false_iff.2 hh]; rfl)
    by_cases a1 : id < 1
    · have b0 : decide (id < 1) = true := decide_eq_true a1
      clear hh
      unfold insV
      go_enter Tryd.func7, Tryd.ntmps7
      go_wp2_with fail
      go_ret
      exact ⟨by rw [HRV.out, HF.out]; rfl, hB0⟩
    have b0 : decide (id < 1) = false := decide_eq_false a1
    by_cases a2 : 8 < id
    · have b1 : decide (8 < id) = true := decide_eq_true a2
      clear hh
      unfold insV
      go_enter Tryd.func7, Tryd.ntmps7
      go_wp2_with fail
      go_ret
      exact ⟨by rw [HRV.out, HF.out]; rfl, hB0⟩
    have b1 : decide (8 < id) = false := decide_eq_false a2
    by_cases a3 : mult < 1
    · have b2 : decide (mult < 1) = true := decide_eq_true a3
      clear hh
      unfold insV
      go_enter Tryd.func7, Tryd.ntmps7
      go_wp2_with fail
      go_ret
      exact ⟨by rw [HRV.out, HF.out]; rfl, hB0⟩
    have b2 : decide (mult < 1) = false := decide_eq_false a3
    by_cases a4 : 65536 < mult
    · have b3 : decide (65536 < mult) = true := decide_eq_true a4
      clear hh
      unfold insV
      go_enter Tryd.func7, Tryd.ntmps7
      go_wp2_with fail
      go_ret
      exact ⟨by rw [HRV.out, HF.out]; rfl, hB0⟩
    have b3 : decide (65536 < mult) = false := decide_eq_false a4
    by_cases a5 : prB price = false
    · have H5 := Lib.hid a5
      clear a5
      clear hh
      unfold insV
      go_enter Tryd.func7, Tryd.ntmps7
      go_wp2_with fail
      refine (HP _ _).mono ?_
      rintro e w1 ⟨rfl, rfl⟩
      rw [H5.out]
      go_wp2_with fail
      go_ret
      exact ⟨by rw [HRV.out, HF.out]; rfl, hB0⟩
    have H5 := Lib.hid (show prB price = true by simpa using a5)
    by_cases a6 : prB nxt = false
    · have H6 := Lib.hid a6
      clear a6 a5
      clear hh
      unfold insV
      go_enter Tryd.func7, Tryd.ntmps7
      go_wp2_with fail
      refine (HP _ _).mono ?_
      rintro e w1 ⟨rfl, rfl⟩
      rw [H5.out]
      go_wp2_with fail
      refine (HP _ _).mono ?_
      rintro e w1 ⟨rfl, rfl⟩
      rw [H6.out]
      go_wp2_with fail
      go_ret
      exact ⟨by rw [HRV.out, HF.out]; rfl, hB0⟩
    have H6 := Lib.hid (show prB nxt = true by simpa using a6)
    have a7 : (8 : Int) < (mv.length : Int) := by
      refine Decidable.byContradiction fun h7 => hh ?_
      simp only [headB, Bool.and_eq_true, decide_eq_true_eq]
      exact ⟨⟨⟨⟨⟨⟨by omega, by omega⟩, by omega⟩, by omega⟩, H5.out⟩, H6.out⟩, by omega⟩
    have b7 : decide ((8 : Int) < (mv.length : Int)) = true := decide_eq_true a7
    clear a5 a6
    clear hh
    unfold insV
    go_enter Tryd.func7, Tryd.ntmps7
    go_wp2_with fail
    refine (HP _ _).mono ?_
    rintro e w1 ⟨rfl, rfl⟩
    rw [H5.out]
    go_wp2_with fail
    refine (HP _ _).mono ?_
    rintro e w1 ⟨rfl, rfl⟩
    rw [H6.out]
    go_wp2_with fail
    go_ret
    exact ⟨by rw [HRV.out, HF.out]; rfl, hB0⟩
set_option maxRecDepth 100000 in
set_option maxHeartbeats 4000000 in
theorem ris_any (i : Ins) (A : Option Addr) (c : Nat) (w : World) (h : InsAt w i A c) :
    Calls Tryd.prog 8 #[insV i A c] w fun e w' => e = .returned (.bool (okB i)) ∧ Below w.heap.size w w' := by
  obtain ⟨⟨hc1, hc2⟩, hs, h64, hn⟩ := h
  obtain ⟨id, mult, price, nxt, mv⟩ := i
  simp only at *
  obtain ⟨RV, hRV⟩ : ∃ v : Value, v = .bool (okB ⟨id, mult, price, nxt, mv⟩) := ⟨_, rfl⟩
  rw [← hRV]
  have HRV := Lib.hid hRV
  clear hRV
  have HP := fun p w => rprice_any p w
  have hB0 := since_alloc (Below.refl _ w) (.cells #[.int .i64 id, .int .i64 mult, .int .i64 price, .int .i64 nxt, .slice A mv.length c] 25)
  have hI0 := IB.new w ⟨id, mult, price, nxt, mv⟩ A c 25
  by_cases hh : headB ⟨id, mult, price, nxt, mv⟩ = true
  · have hh' := hh
    simp only [headB, Bool.and_eq_true, decide_eq_true_eq] at hh'
    obtain ⟨⟨⟨⟨⟨⟨k1, k2⟩, k3⟩, k4⟩, k5⟩, k6⟩, k7⟩ := hh'
    have hok : okB ⟨id, mult, price, nxt, mv⟩ = mv.all mvB := by unfold okB; rw [hh]; rfl
    have HOK := Lib.hid hok
    have H5 := Lib.hid k5
    have H6 := Lib.hid k6
    have HA : Hid (∀ k, (hk : k < mv.length) → mvB mv[k] = false → mv.all mvB = false) := Lib.hid (fun k hk h => by
      rw [Bool.eq_false_iff]; intro ha
      rw [List.all_eq_true] at ha
      rw [ha _ (List.getElem_mem hk)] at h
      cases h)
    have HT : Hid ((∀ k, (hk : k < mv.length) → mvB mv[k] = true) → mv.all mvB = true) := Lib.hid (fun h => by
      rw [List.all_eq_true]
      intro x hx
      obtain ⟨k, hk, rfl⟩ := List.getElem_of_mem hx
      exact h k hk)
    have l1 : decide (id < 1) = false := decide_eq_false (by omega)
    have l2 : decide (8 < id) = false := decide_eq_false (by omega)
    have l3 : decide (mult < 1) = false := decide_eq_false (by omega)
    have l4 : decide (65536 < mult) = false := decide_eq_false (by omega)
    have l5 : decide ((8 : Int) < (mv.length : Int)) = false := decide_eq_false (by omega)
    clear hh hok k5 k6
    have HI0 := Lib.hid hI0
    clear hI0
    unfold insV
    go_enter Tryd.func8, Tryd.ntmps8
    go_wp2_with fail
    refine (HP _ _).mono ?_
    rintro e w1 ⟨rfl, rfl⟩
    rw [H5.out]
    go_wp2_with fail
    refine (HP _ _).mono ?_
    rintro e w1 ⟨rfl, rfl⟩
    rw [H6.out]
    go_wp2_with fail
    go_loopw [3] (fun s wr => ∃ k : Nat, k ≤ mv.length ∧ s = .int .i64 k ∧ Hid (∀ j, (hj : j < mv.length) → j < k → mvB mv[j] = true) ∧ IB wr w.heap.size ⟨id, mult, price, nxt, mv⟩ A c ∧ Below w.heap.size w wr) (fun s _ => mv.length - (intOf s).toNat)
    case atStart => exact ⟨0, by omega, rfl, Lib.hid (fun j hj h => absurd h (by omega)), HI0.out, hB0⟩
    case round =>
      obtain ⟨k, hk, rfl, HK, hI, hB⟩ := hrel
      obtain ⟨i0, i1, i2, i3, i4, i5⟩ := _root_.id hI
      simp only at i1 i2 i3 i4 i5
      by_cases hlt : k < mv.length
      · obtain ⟨b, o, rfl, hz⟩ := (hs.below hB).int hlt
        have hbr := World.block_lt_of_cell? _ _ hz
        by_cases hm : mvB mv[k] = true
        · have HK2 : Hid (∀ j, (hj : j < mv.length) → j < k + 1 → mvB mv[j] = true) := Lib.hid (fun j hj h => by
            rcases Nat.lt_or_ge j k with h' | h'
            · exact HK.out j hj h'
            · obtain rfl : j = k := by omega
              exact hm)
          simp only [mvB, Bool.and_eq_true, decide_eq_true_eq] at hm
          generalize mv[k] = x at *
          go_wp2
          go_roundw
          case rel => exact ⟨k + 1, by omega, by go_num, HK2, hI, hB⟩
          case measure => simp [intOf]; omega
        · have E := Lib.hid (HA.out k hlt (by simpa using hm))
          have hm2 : x_out mv[k] := by
            unfold x_out
            simp only [mvB, Bool.and_eq_true, decide_eq_true_eq] at hm
            omega
          unfold x_out at hm2
          clear hm
          generalize mv[k] = x at *
          rcases hm2 with hm2 | ⟨hm2, hm3⟩
          · go_wp2
            go_ret
            exact ⟨by rw [HRV.out, HOK.out, E.out]; rfl, hB⟩
          · go_wp2
            go_ret
            exact ⟨by rw [HRV.out, HOK.out, E.out]; rfl, hB⟩
      · obtain rfl : k = mv.length := by omega
        have E := Lib.hid (HT.out fun j hj => HK.out j hj hj)
        go_wp2
        go_ret
        exact ⟨by rw [HRV.out, HOK.out, E.out]; rfl, hB⟩
  · have HF : Hid (okB ⟨id, mult, price, nxt, mv⟩ = false) := Lib.hid (by unfold okB; rw [Bool.eq_false_iff.2 hh]; rfl)
    by_cases a1 : id < 1
    · have b0 : decide (id < 1) = true := decide_eq_true a1
      clear hh
      unfold insV
      go_enter Tryd.func8, Tryd.ntmps8
      go_wp2_with fail
      go_ret
      exact ⟨by rw [HRV.out, HF.out]; rfl, hB0⟩
    have b0 : decide (id < 1) = false := decide_eq_false a1
    by_cases a2 : 8 < id
    · have b1 : decide (8 < id) = true := decide_eq_true a2
      clear hh
      unfold insV
      go_enter Tryd.func8, Tryd.ntmps8
      go_wp2_with fail
      go_ret
      exact ⟨by rw [HRV.out, HF.out]; rfl, hB0⟩
    have b1 : decide (8 < id) = false := decide_eq_false a2
    by_cases a3 : mult < 1
    · have b2 : decide (mult < 1) = true := decide_eq_true a3
      clear hh
      unfold insV
      go_enter Tryd.func8, Tryd.ntmps8
      go_wp2_with fail
      go_ret
      exact ⟨by rw [HRV.out, HF.out]; rfl, hB0⟩
    have b2 : decide (mult < 1) = false := decide_eq_false a3
    by_cases a4 : 65536 < mult
    · have b3 : decide (65536 < mult) = true := decide_eq_true a4
      clear hh
      unfold insV
      go_enter Tryd.func8, Tryd.ntmps8
      go_wp2_with fail
      go_ret
      exact ⟨by rw [HRV.out, HF.out]; rfl, hB0⟩
    have b3 : decide (65536 < mult) = false := decide_eq_false a4
    by_cases a5 : prB price = false
    · have H5 := Lib.hid a5
      clear a5
      clear hh
      unfold insV
      go_enter Tryd.func8, Tryd.ntmps8
      go_wp2_with fail
      refine (HP _ _).mono ?_
      rintro e w1 ⟨rfl, rfl⟩
      rw [H5.out]
      go_wp2_with fail
      go_ret
      exact ⟨by rw [HRV.out, HF.out]; rfl, hB0⟩
    have H5 := Lib.hid (show prB price = true by simpa using a5)
    by_cases a6 : prB nxt = false
    · have H6 := Lib.hid a6
      clear a6 a5
      clear hh
      unfold insV
      go_enter Tryd.func8, Tryd.ntmps8
      go_wp2_with fail
      refine (HP _ _).mono ?_
      rintro e w1 ⟨rfl, rfl⟩
      rw [H5.out]
      go_wp2_with fail
      refine (HP _ _).mono ?_
      rintro e w1 ⟨rfl, rfl⟩
      rw [H6.out]
      go_wp2_with fail
      go_ret
      exact ⟨by rw [HRV.out, HF.out]; rfl, hB0⟩
    have H6 := Lib.hid (show prB nxt = true by simpa using a6)
    have a7 : (8 : Int) < (mv.length : Int) := by
      refine Decidable.byContradiction fun h7 => hh ?_
      simp only [headB, Bool.and_eq_true, decide_eq_true_eq]
      exact ⟨⟨⟨⟨⟨⟨by omega, by omega⟩, by omega⟩, by omega⟩, H5.out⟩, H6.out⟩, by omega⟩
    have b7 : decide ((8 : Int) < (mv.length : Int)) = true := decide_eq_true a7
    clear a5 a6
    clear hh
    unfold insV
    go_enter Tryd.func8, Tryd.ntmps8
    go_wp2_with fail
    refine (HP _ _).mono ?_
    rintro e w1 ⟨rfl, rfl⟩
    rw [H5.out]
    go_wp2_with fail
    refine (HP _ _).mono ?_
    rintro e w1 ⟨rfl, rfl⟩
    rw [H6.out]
    go_wp2_with fail
    go_ret
    exact ⟨by rw [HRV.out, HF.out]; rfl, hB0⟩
end Go.Proofs.YtldnponbkhgijaaDoor
end
section
namespace Go.Proofs.YtldnponbkhgijaaDoor
open Go.ChangeShapes Go.WideShapes Go.ChangeAt Go.RowKit
set_option linter.unusedVariables false
set_option linter.unusedSimpArgs false

def ahI (x y : Iq) : Bool := decide (x.id < y.id)
def idI (id : Int) (x : Iq) : Bool := x.id == id
def findI (l : List Iq) (id : Int) : Iq := pickL (idI id) Iq.zero l
def hasI (l : List Iq) (id : Int) : Bool := (l.find? (idI id)).isSome
theorem casesI (l : List Iq) (id : Int) : (hasI l id = false ∧ atL (idI id) l = -1 ∧ findI l id = Iq.zero ∧ l.find? (idI id) = none) ∨ ∃ k : Nat, ∃ hk : k < l.length, hasI l id = true ∧ atL (idI id) l = k ∧ findI l id = l[k] ∧ idI id l[k] = true ∧ ∀ j, (hj : j < k) → idI id (l[j]'(by omega)) = false := by
  rcases atL_cases (idI id) l with ⟨h0, hno⟩ | ⟨k, hk, h0, hpk, hno⟩
  · have hf := find_none hno
    exact .inl ⟨by rw [hasI, hf]; rfl, h0, by rw [findI, pickL, hf]; rfl, hf⟩
  · have hf := find_some hk hno hpk
    exact .inr ⟨k, hk, by rw [hasI, hf]; rfl, h0, by rw [findI, pickL, hf]; rfl, hpk, hno⟩
def putIR (q : Bool) (l : List Iq) (v : Iq) : Int × List Iq := if ¬ (q = true) then (2, []) else if hasI l v.id = true then (12, []) else (0, putR ahI l v)
def IRes (B : Nat) (w' : World) (e : Ending) (R : Int × List Iq) : Prop :=
  ∃ A' c', e = .returned (.tuple #[.slice A' R.2.length c', .int .i64 R.1]) ∧ w'.ownsRow B 25 5 (.slice A' R.2.length c') R.2.length (rc Iq.cells R.2)
theorem IRes.nil (B : Nat) (w' : World) (n : Int) : IRes B w' (.returned (.tuple #[.slice none 0 0, .int .i64 n])) (n, []) := ⟨none, 0, rfl, own_nil _ _ _⟩
theorem boolI_ext {a b : Bool} (h : a = true ↔ b = true) : a = b := by cases a <;> cases b <;> simp_all
theorem ordI : Ord ahI where
  tr := fun a b c h1 h2 => by simp only [ahI, decide_eq_true_eq] at *; omega
  asy := fun a b h => by simp only [ahI, decide_eq_true_eq, decide_eq_false_iff_not] at *; omega
  cong := fun a x b h1 h2 => boolI_ext (by simp only [ahI, decide_eq_true_eq, decide_eq_false_iff_not] at *; omega)
  cong2 := fun a x b h1 h2 => boolI_ext (by simp only [ahI, decide_eq_true_eq, decide_eq_false_iff_not] at *; omega)
theorem idI_iff (id : Int) (x : Iq) : idI id x = true ↔ x.id = id := by simp [idI]
abbrev SortedI (l : List Iq) : Prop := l.Pairwise (fun a b => ahI a b = true)
theorem insI {l : List Iq} (h : SortedI l) (v : Iq) (hn : l.find? (idI v.id) = none) :
    l.take (l.findIdx fun y => !ahI y v) ++ v :: l.drop (l.findIdx fun y => !ahI y v) = putR ahI l v := by
  rw [← refPut_eq ordI v l h]
  have e : (l.filter fun y => !eqv ahI v y) = l := by
    rw [List.filter_eq_self]
    intro y hy
    rw [List.find?_eq_none] at hn
    have := hn y hy
    rw [idI_iff] at this
    simp only [eqv, ahI, Bool.not_eq_true', Bool.and_eq_false_iff, decide_eq_false_iff_not, decide_eq_true_eq, Bool.not_eq_false']
    omega
  unfold refPut
  rw [e]
def FindIRel (l : List Iq) (id : Int) (W0 : World) (i : Value) (wr : World) : Prop :=
  ∃ k : Nat, k ≤ l.length ∧ i = .int .i64 k ∧ (∀ j, (hj : j < l.length) → j < k → idI id l[j] = false) ∧ Below W0.heap.size W0 wr
set_option maxHeartbeats 4000000 in
set_option maxRecDepth 100000 in
theorem rfindi_any (A : Option Addr) (cap : Nat) (l : List Iq) (id : Int) (w : World) (hl : l.length ≤ 1000000) (hs : Sl w A (rc Iq.cells l)) :
    Calls Tryd.prog 14 #[.slice A l.length cap, .int .i64 id] w fun e w' => e = .returned (.tuple #[(findI l id).val, .bool (hasI l id)]) ∧ Below w.heap.size w w' := by
  have hB0 := since_alloc (Below.refl w.heap.size w) (.cells #[.int .i64 0, .int .i64 0, .int .i64 0, .int .i64 0, .slice none 0 0] 25)
  have Bz0 := Bk.new w #[.int .i64 0, .int .i64 0, .int .i64 0, .int .i64 0, .slice none 0 0] 25
  have hfz0 : ∀ i, (w.alloc (.cells #[.int .i64 0, .int .i64 0, .int .i64 0, .int .i64 0, .slice none 0 0] 25)).frozen? ⟨w.heap.size, i, none⟩ = false := fun i => by simp
  have hs0 := hs.alloc (.cells #[.int .i64 0, .int .i64 0, .int .i64 0, .int .i64 0, .slice none 0 0] 25)
  go_enter Tryd.func14, Tryd.ntmps14
  go_upto_region 1 with fail
  generalize hWW : w.alloc (.cells #[.int .i64 0, .int .i64 0, .int .i64 0, .int .i64 0, .slice none 0 0] 25) = W0 at *
  clear hWW hs
  have hz1 : w.heap.size < W0.heap.size := Bz0.1
  have HZ : Hid (∀ V, Below W0.heap.size W0 V → Bk V w.heap.size #[.int .i64 0, .int .i64 0, .int .i64 0, .int .i64 0, .slice none 0 0] ∧ ∀ i, V.frozen? ⟨w.heap.size, i, none⟩ = false) := Lib.hid fun V hV =>
    ⟨Bz0.below hV, fun i => by rw [(hV.frozen (p := ⟨w.heap.size, i, none⟩) hz1)]; exact hfz0 i⟩
  clear Bz0 hfz0
  go_wp2_with fail
  go_loopw [6] (fun i wr => FindIRel l id W0 i wr) (fun i _ => l.length - (intOf i).toNat)
  case atStart => exact ⟨0, by omega, rfl, fun j hj h => absurd h (by omega), Below.refl _ _⟩
  case round =>
    obtain ⟨k, hk, rfl, hno, hB⟩ := hrel
    have hB3 := hB0.trans (hB.mono (Nat.le_of_lt hz1))
    obtain ⟨⟨lb, cb⟩, hfz⟩ := HZ.out wr hB
    have q0 := cb 0
    have q1 := cb 1
    have q2 := cb 2
    have q3 := cb 3
    have q4 := cb 4
    simp at q0 q1 q2 q3 q4
    have hcs := @cell_set
    clear cb
    by_cases hlt2 : k < l.length
    · obtain ⟨b, o, rfl, hbw, hg⟩ := hs0.iq hlt2
      have hg1 : l[k].at wr b (o + k * 5) := Iq.at_keep (w := W0) hg fun i => hB.cell (p := ⟨b, i, none⟩) hbw
      have HX : Hid (∀ q : Bool, idI id l[k] = q → if q then findI l id = l[k] ∧ hasI l id = true else ∀ j, (hj : j < l.length) → j < k + 1 → idI id l[j] = false) := Lib.hid fun q hq => by
        cases q with
        | true =>
          have := find_some hlt2 (fun j hj => hno j (by omega) hj) hq
          exact ⟨by rw [findI, pickL, this]; rfl, by rw [hasI, this]; rfl⟩
        | false =>
          intro j hj hjk
          rcases Nat.lt_or_ge j k with h | h
          · exact hno j hj h
          · obtain rfl : j = k := by omega
            exact hq
      have hlk : (k : Int) < (l.length : Int) := by omega
      clear hg hs0 hbw hno
      generalize l[k] = v at hg1 HX
      obtain ⟨vid, v1, v2, v3, v4, v5, v6⟩ := v
      obtain ⟨g0, g1, g2, g3, g4⟩ := hg1
      simp only at g0 g1 g2 g3 g4
      by_cases h1 : vid = id
      · subst h1
        have HF := Lib.hid (show findI l vid = _ ∧ hasI l vid = true by simpa using HX.out true (by simp [idI]))
        clear HX
        go_wp2_with fail
        refine bodyPost_ret (v := .tuple #[(⟨vid, v1, v2, v3, v4, v5, v6⟩ : Iq).val, .bool true]) ?_ rfl ⟨?_, ?_⟩
        · simp [results, Tryd.results14, go_sem, q0, q1, q2, q3, q4, hfz, Iq.val]
        · rw [HF.out.1, HF.out.2]
        · repeat' (first | with_reducible exact hB3 | with_reducible refine Below.drew ?_ | with_reducible refine Below.setCell ?_ ?_ _ | with_reducible refine Below.alloc ?_ ?_ _)
          all_goals exact Nat.le_refl _
      · have HN := Lib.hid (show ∀ j, (hj : j < l.length) → j < k + 1 → idI id l[j] = false by simpa using HX.out false (by simp [idI, h1]))
        have h1b : (vid == id) = false := by simpa using h1
        clear HX h1
        go_wp2_with fail
        go_roundw
        case rel => exact ⟨k + 1, by omega, by go_num, HN.out, hB⟩
        case measure => simp [intOf]; omega
    · have hfn := find_none (p := idI id) fun j hj => hno j hj (by omega)
      have HF := Lib.hid (show findI l id = Iq.zero ∧ hasI l id = false from ⟨by rw [findI, pickL, hfn]; rfl, by rw [hasI, hfn]; rfl⟩)
      clear hno hfn HZ
      go_wp2_with fail
      refine bodyPost_ret (v := .tuple #[Iq.zero.val, .bool false]) ?_ rfl ⟨?_, ?_⟩
      · simp [results, Tryd.results14, go_sem, q0, q1, q2, q3, q4, hfz, Iq.val, Iq.zero]
      · rw [HF.out.1, HF.out.2]
      · repeat' (first | with_reducible exact hB3 | with_reducible refine Below.setCell ?_ ?_ _ | with_reducible refine Below.alloc ?_ ?_ _)
        all_goals exact Nat.le_refl _
theorem Sl.drop0 {w : World} {g n : Nat} {xs : List Value} (h : Sl w (some ⟨g, 0, none⟩) xs) : Sl w (some ⟨g, n, none⟩) (xs.drop n) := by
  intro hne
  obtain ⟨b, o, e, hc⟩ := h (by rintro rfl; simp at hne)
  injection e with e
  injection e with e1 e2 e3
  subst e1; subst e2
  refine ⟨g, n, rfl, fun j u hu => ?_⟩
  rw [List.getElem?_drop] at hu
  have := hc _ _ hu
  rwa [Nat.zero_add] at this
theorem findIdx_of {α : Type} {p : α → Bool} {l : List α} {k : Nat} (hk : k ≤ l.length) (h : ∀ j, (hj : j < l.length) → j < k → p l[j] = false) (he : ∀ hj : k < l.length, p l[k] = true) : l.findIdx p = k := by
  rcases Nat.lt_or_ge k l.length with h1 | h1
  · rw [List.findIdx_eq h1]
    exact ⟨he h1, fun j hj => h j (by omega) hj⟩
  · have e : k = l.length := by omega
    rw [e, List.findIdx_eq_length]
    intro x hx
    obtain ⟨j, hj, rfl⟩ := List.getElem_of_mem hx
    exact h j hj (by omega)
theorem own_capI {w : World} {base : Nat} {e : TypeId} {size n c : Nat} {A : Option Addr} {xs : List Value} (h : w.ownsRow base e size (.slice A n c) n xs) : n ≤ c ∧ c ≤ maxLen := by
  rcases h.2 with ⟨hv, h0⟩ | ⟨g, cap, cur, hv, hg, hh, hnc, hcm, _⟩
  · injection hv with e1 e2 e3; subst e3; subst h0; exact ⟨Nat.le_refl _, by decide⟩
  · injection hv with e1 e2 e3; subst e3; exact ⟨hnc, hcm⟩
set_option maxHeartbeats 8000000 in
set_option maxRecDepth 100000 in
theorem rputi_any (B0 : Nat) (A : Option Addr) (cap : Nat) (l : List Iq) (x : Iq) (q : Bool) (w : World) (HQ : ∀ W, Below w.heap.size w W → Calls Tryd.prog 8 #[x.val] W fun e w' => e = .returned (.bool q) ∧ Below W.heap.size W w') (hl : l.length ≤ 900000) (hown : w.ownsRow B0 25 5 (.slice A l.length cap) l.length (rc Iq.cells l)) (hsd : SortedI l) :
    Calls Tryd.prog 10 #[.slice A l.length cap, x.val] w fun e w' => IRes w.heap.size w' e (putIR q l x) ∧ Below w.heap.size w w' := by
  have hB0 := since_alloc (Below.refl _ w) (.cells x.cells.toArray 25)
  have hx0 := Iq.Bx.new w x
  have hown0 := hown.alloc (.cells x.cells.toArray 25)
  have HIS : Hid (∀ W, Below w.heap.size w W → Calls Tryd.prog 8 #[x.val] W fun e w' => e = .returned (.bool (decide (q = true))) ∧ Below W.heap.size W w') := Lib.hid (fun W h => by have := HQ W h; rwa [show decide (q = true) = q by simp])
  have HFD := Lib.hid (fun W h => rfindi_any A cap l x.id W (by omega) h)
  clear hown HQ
  by_cases hok : q = true
  rotate_left
  · have HI : Hid (decide (q = true) = false) := Lib.hid (decide_eq_false hok)
    have HR : Hid ((putIR q l x) = (2, [])) := Lib.hid (by rw [putIR, if_pos hok])
    clear hok
    unfold Iq.val at HIS ⊢
    go_enter Tryd.func10, Tryd.ntmps10
    go_wp2_with fail
    refine (HIS.out _ hB0).mono ?_
    rintro e w1 ⟨rfl, hb1⟩
    have hB1 := since_step hB0 hb1
    rw [HI.out]
    go_wp2_with fail
    go_ret2
    rw [HR.out]
    exact ⟨IRes.nil _ _ _, hB1⟩
  · have HI : Hid (decide (q = true) = true) := Lib.hid (decide_eq_true hok)
    rcases casesI l x.id with ⟨hh, hat, hfz, hfn⟩ | ⟨kk, hkk, hh, hat, hfk, hid, hbefore⟩
    · have HPL : Hid (∀ k, k ≤ l.length → (∀ j, (hj : j < l.length) → j < k → ahI l[j] x = true) → (∀ hj : k < l.length, ahI l[k] x = false) → putIR q l x = (0, l.take k ++ x :: l.drop k)) := Lib.hid fun k hk h1 h2 => by
        have h9 := insI hsd x hfn
        rw [findIdx_of hk (fun j hj hjk => by rw [h1 j hj hjk]; rfl) (fun hj => by rw [h2 hj]; rfl)] at h9
        rw [putIR, if_neg (by simpa using hok), if_neg (by rw [hh]; decide), h9]
      have HH := Lib.hid hh
      clear hok hh hat hfz hfn hsd
      unfold Iq.val at HIS ⊢
      go_enter Tryd.func10, Tryd.ntmps10
      go_wp2_with fail
      refine (HIS.out _ hB0).mono ?_
      rintro e w1 ⟨rfl, hb1⟩
      have hB1 := since_step hB0 hb1
      have hx1 := hx0.below hb1
      have hown1 := own_below hown0 hb1
      obtain ⟨x0, x1, x2, x3, x4⟩ := hx1.got
      clear hb1
      rw [HI.out]
      go_wp2_with fail
      refine (HFD.out _ (Sl.of_own hown1)).mono ?_
      rintro e w2 ⟨rfl, hb2⟩
      have hB2' := since_step hB1 hb2
      have hx2 := hx1.below hb2
      have hown2' := own_below hown1 hb2
      clear x0 x1 x2 x3 x4 hb2 hown1 hx1 hx0 hown0
      rw [HH.out]
      generalize findI l x.id = fm
      unfold Iq.val
      have hB1 := since_alloc hB2' (.cells fm.cells.toArray 25)
      have hx1 := hx2.below ((Below.refl _ _).alloc (Nat.le_refl _) (.cells fm.cells.toArray 25))
      have hown := hown2'.alloc (.cells fm.cells.toArray 25)
      have hcs := @cell_set
      clear hB2' hx2 hown2'
      go_upto_region 6 with fail
      unfold Iq.cells at hB1 hx1 hown
      generalize hWW : w2.alloc (.cells #[.int .i64 fm.id, .int .i64 fm.mult, .int .i64 fm.price, .int .i64 fm.nxt, .slice fm.mv fm.mvL fm.mvC] 25) = W1 at *
      clear hWW
      go_wp2_with fail
      go_loopw [9] (fun i wr => ∃ k : Nat, k ≤ l.length ∧ i = .int .i64 k ∧ (∀ j, (hj : j < l.length) → j < k → ahI l[j] x = true) ∧ Below W1.heap.size W1 wr) (fun i _ => l.length - (intOf i).toNat)
      case atStart => exact ⟨0, by omega, rfl, fun j hj h => absurd h (by omega), Below.refl _ _⟩
      case round =>
        obtain ⟨k, hk, rfl, hno, hB⟩ := hrel
        have hB2 : Below w.heap.size w wr := since_step hB1 hB
        have HXB : Hid (∀ V, Below wr.heap.size wr V → Iq.Bx V w.heap.size x) := Lib.hid fun V hV => (hx1.below hB).below hV
        have HO : Hid (∀ V, Below wr.heap.size wr V → V.ownsRow B0 25 5 (.slice A l.length cap) l.length (rc Iq.cells l)) := Lib.hid fun V hV => own_below (own_below hown hB) hV
        have hxl : w.heap.size < wr.heap.size := (HXB.out wr (Below.refl _ _)).lt
        by_cases hlt : k < l.length
        · have hO0 := HO.out wr (Below.refl _ _)
          obtain ⟨gb, rfl, hgb, hgw, _⟩ := own_at hO0 (by omega)
          obtain ⟨b, o, eb, hbw, hg⟩ := (Sl.of_own hO0).iq hlt
          injection eb with eb
          injection eb with e1 e2 e3
          subst e1; subst e2
          simp only [Nat.zero_add] at hg
          have hc1 := own_capI hO0
          unfold maxLen at hc1
          obtain ⟨hc1, hcm⟩ := hc1
          have HK1 : Hid (∀ V, Below wr.heap.size wr V → l[k].at V gb (k * 5)) := Lib.hid fun V hV => Iq.at_keep (w := wr) hg fun i => hV.cell (p := ⟨gb, i, none⟩) hbw
          have hlk : (k : Int) < (l.length : Int) := by omega
          have hck : ¬ (cap = k) := by omega
          have hkc : k ≤ cap := by omega
          by_cases hq : ahI l[k] x = true
          · have HN : Hid (∀ j, (hj : j < l.length) → j < k + 1 → ahI l[j] x = true) := Lib.hid fun j hj hjk => by
              rcases Nat.lt_or_ge j k with h | h
              · exact hno j hj h
              · obtain rfl : j = k := by omega
                exact hq
            have hq2 : l[k].id < x.id := by simpa [ahI] using hq
            clear hno hown hx1 hg hbw hq hO0
            generalize l[k] = v at HK1 hq2
            obtain ⟨vid, vm, vp, vx, vc, vcL, vcC⟩ := v
            unfold Iq.at at HK1
            simp only at HK1 hq2
            go_wp2_with fail
            refine wp_region_held_drew (S := (fun V => Below wr.heap.size wr V)) (by kernel_rfl) (by exact (Below.refl _ _).drew) (fun hHeld => ?_)
            refine wpAnyH_take (i := 0) (oi := { dst := some 21, op := _, type := _, pos := _, after := _, guard := _ }) (v := ?_) rfl (by kernel_rfl) (by kernel_rfl) (by kernel_rfl) (fun _ _ _ h => h) (Or.inl ⟨by rfl, ?_⟩) hHeld ?_
            rotate_left
            · (intro w hSw; obtain ⟨g0, g1, g2, g3, g4⟩ := HK1.out _ hSw; obtain ⟨x0, x1, x2, x3, x4⟩ := (HXB.out _ hSw).got; go_simp <;> with_reducible rfl)
            try simp only [Act.put, List.setIfInBounds_toArray, List.set_cons_zero, List.set_cons_succ]
            refine wpAnyH_take (i := 1) (oi := { dst := some 22, op := _, type := _, pos := _, after := _, guard := _ }) (v := ?_) rfl (by kernel_rfl) (by kernel_rfl) (by kernel_rfl) (fun _ _ _ h => h) (Or.inl ⟨by rfl, ?_⟩) hHeld ?_
            rotate_left
            · (intro w hSw; obtain ⟨g0, g1, g2, g3, g4⟩ := HK1.out _ hSw; obtain ⟨x0, x1, x2, x3, x4⟩ := (HXB.out _ hSw).got; go_simp <;> with_reducible rfl)
            try simp only [Act.put, List.setIfInBounds_toArray, List.set_cons_zero, List.set_cons_succ]
            refine wpAnyH_take (i := 2) (oi := { dst := some 23, op := _, type := _, pos := _, after := _, guard := _ }) (v := ?_) rfl (by kernel_rfl) (by kernel_rfl) (by kernel_rfl) (fun _ _ _ h => h) (Or.inl ⟨by rfl, ?_⟩) hHeld ?_
            rotate_left
            · (intro w hSw; obtain ⟨g0, g1, g2, g3, g4⟩ := HK1.out _ hSw; obtain ⟨x0, x1, x2, x3, x4⟩ := (HXB.out _ hSw).got; go_simp <;> with_reducible rfl)
            try simp only [Act.put, List.setIfInBounds_toArray, List.set_cons_zero, List.set_cons_succ]
            refine wpAnyH_take (i := 3) (oi := { dst := some 24, op := _, type := _, pos := _, after := _, guard := _ }) (v := ?_) rfl (by kernel_rfl) (by kernel_rfl) (by kernel_rfl) (fun _ _ _ h => h) (Or.inl ⟨by rfl, ?_⟩) hHeld ?_
            rotate_left
            · (intro w hSw; obtain ⟨g0, g1, g2, g3, g4⟩ := HK1.out _ hSw; obtain ⟨x0, x1, x2, x3, x4⟩ := (HXB.out _ hSw).got; go_simp <;> with_reducible rfl)
            try simp only [Act.put, List.setIfInBounds_toArray, List.set_cons_zero, List.set_cons_succ]
            refine wpAnyH_take (i := 4) (oi := { dst := some 25, op := _, type := _, pos := _, after := _, guard := _ }) (v := ?_) rfl (by kernel_rfl) (by kernel_rfl) (by kernel_rfl) (fun _ _ _ h => h) (Or.inl ⟨by rfl, ?_⟩) hHeld ?_
            rotate_left
            · (intro w hSw; obtain ⟨g0, g1, g2, g3, g4⟩ := HK1.out _ hSw; obtain ⟨x0, x1, x2, x3, x4⟩ := (HXB.out _ hSw).got; go_simp <;> with_reducible rfl)
            try simp only [Act.put, List.setIfInBounds_toArray, List.set_cons_zero, List.set_cons_succ]
            refine wpAnyH_take (i := 5) (oi := { dst := some 26, op := _, type := _, pos := _, after := _, guard := _ }) (v := ?_) rfl (by kernel_rfl) (by kernel_rfl) (by kernel_rfl) (fun _ _ _ h => h) (Or.inl ⟨by rfl, ?_⟩) hHeld ?_
            rotate_left
            · (intro w hSw; obtain ⟨g0, g1, g2, g3, g4⟩ := HK1.out _ hSw; obtain ⟨x0, x1, x2, x3, x4⟩ := (HXB.out _ hSw).got; go_simp <;> with_reducible rfl)
            try simp only [Act.put, List.setIfInBounds_toArray, List.set_cons_zero, List.set_cons_succ]
            refine wpAnyH_take (i := 6) (oi := { dst := some 27, op := _, type := _, pos := _, after := _, guard := _ }) (v := ?_) rfl (by kernel_rfl) (by kernel_rfl) (by kernel_rfl) (fun _ _ _ h => h) (Or.inl ⟨by rfl, ?_⟩) hHeld ?_
            rotate_left
            · (intro w hSw; obtain ⟨g0, g1, g2, g3, g4⟩ := HK1.out _ hSw; obtain ⟨x0, x1, x2, x3, x4⟩ := (HXB.out _ hSw).got; go_simp <;> with_reducible rfl)
            try simp only [Act.put, List.setIfInBounds_toArray, List.set_cons_zero, List.set_cons_succ]
            refine wpAnyH_take (i := 7) (oi := { dst := some 28, op := _, type := _, pos := _, after := _, guard := _ }) (v := ?_) rfl (by kernel_rfl) (by kernel_rfl) (by kernel_rfl) (fun _ _ _ h => h) (Or.inl ⟨by rfl, ?_⟩) hHeld ?_
            rotate_left
            · (intro w hSw; obtain ⟨g0, g1, g2, g3, g4⟩ := HK1.out _ hSw; obtain ⟨x0, x1, x2, x3, x4⟩ := (HXB.out _ hSw).got; go_simp <;> with_reducible rfl)
            try simp only [Act.put, List.setIfInBounds_toArray, List.set_cons_zero, List.set_cons_succ]
            refine wpAnyH_take (i := 8) (oi := { dst := some 29, op := _, type := _, pos := _, after := _, guard := _ }) (v := ?_) rfl (by kernel_rfl) (by kernel_rfl) (by kernel_rfl) (fun _ _ _ h => h) (Or.inl ⟨by rfl, ?_⟩) hHeld ?_
            rotate_left
            · (intro w hSw; obtain ⟨g0, g1, g2, g3, g4⟩ := HK1.out _ hSw; obtain ⟨x0, x1, x2, x3, x4⟩ := (HXB.out _ hSw).got; go_simp <;> with_reducible rfl)
            try simp only [Act.put, List.setIfInBounds_toArray, List.set_cons_zero, List.set_cons_succ]
            refine wpAnyH_take (i := 9) (oi := { dst := some 30, op := _, type := _, pos := _, after := _, guard := _ }) (v := ?_) rfl (by kernel_rfl) (by kernel_rfl) (by kernel_rfl) (fun _ _ _ h => h) (Or.inl ⟨by rfl, ?_⟩) hHeld ?_
            rotate_left
            · (intro w hSw; obtain ⟨g0, g1, g2, g3, g4⟩ := HK1.out _ hSw; obtain ⟨x0, x1, x2, x3, x4⟩ := (HXB.out _ hSw).got; go_simp <;> with_reducible rfl)
            try simp only [Act.put, List.setIfInBounds_toArray, List.set_cons_zero, List.set_cons_succ]
            refine wpAnyH_take (i := 10) (oi := { dst := some 31, op := _, type := _, pos := _, after := _, guard := _ }) (v := ?_) rfl (by kernel_rfl) (by kernel_rfl) (by kernel_rfl) (fun _ _ _ h => h) (Or.inl ⟨by rfl, ?_⟩) hHeld ?_
            rotate_left
            · (intro w hSw; obtain ⟨g0, g1, g2, g3, g4⟩ := HK1.out _ hSw; obtain ⟨x0, x1, x2, x3, x4⟩ := (HXB.out _ hSw).got; go_simp <;> with_reducible rfl)
            try simp only [Act.put, List.setIfInBounds_toArray, List.set_cons_zero, List.set_cons_succ]
            refine wpAnyH_take (i := 11) (oi := { dst := some 32, op := _, type := _, pos := _, after := _, guard := _ }) (v := ?_) rfl (by kernel_rfl) (by kernel_rfl) (by kernel_rfl) (fun _ _ _ h => h) (Or.inl ⟨by rfl, ?_⟩) hHeld ?_
            rotate_left
            · (intro w hSw; obtain ⟨g0, g1, g2, g3, g4⟩ := HK1.out _ hSw; obtain ⟨x0, x1, x2, x3, x4⟩ := (HXB.out _ hSw).got; go_simp <;> with_reducible rfl)
            try simp only [Act.put, List.setIfInBounds_toArray, List.set_cons_zero, List.set_cons_succ]
            refine wpAnyH_take (i := 12) (oi := { dst := some 33, op := _, type := _, pos := _, after := _, guard := _ }) (v := ?_) rfl (by kernel_rfl) (by kernel_rfl) (by kernel_rfl) (fun _ _ _ h => h) (Or.inl ⟨by rfl, ?_⟩) hHeld ?_
            rotate_left
            · (intro w hSw; obtain ⟨g0, g1, g2, g3, g4⟩ := HK1.out _ hSw; obtain ⟨x0, x1, x2, x3, x4⟩ := (HXB.out _ hSw).got; go_simp <;> with_reducible rfl)
            try simp only [Act.put, List.setIfInBounds_toArray, List.set_cons_zero, List.set_cons_succ]
            refine wpAnyH_take (i := 13) (oi := { dst := some 34, op := _, type := _, pos := _, after := _, guard := _ }) (v := ?_) rfl (by kernel_rfl) (by kernel_rfl) (by kernel_rfl) (fun _ _ _ h => h) (Or.inl ⟨by rfl, ?_⟩) hHeld ?_
            rotate_left
            · (intro w hSw; obtain ⟨g0, g1, g2, g3, g4⟩ := HK1.out _ hSw; obtain ⟨x0, x1, x2, x3, x4⟩ := (HXB.out _ hSw).got; go_simp <;> with_reducible rfl)
            try simp only [Act.put, List.setIfInBounds_toArray, List.set_cons_zero, List.set_cons_succ]
            refine wpAnyH_done (by kernel_rfl) ?_ _
            have HN2 := HN
            have hB3 := hB.trans (hHeld.mono hB.size)
            go_wp2_with fail
            go_roundw
            case rel => exact ⟨k + 1, by omega, by go_num, HN2.out, hB3⟩
            case measure => simp [intOf]; omega
          · have hq2 : ¬ l[k].id < x.id := by simpa [ahI] using hq
            have HE : Hid (putIR q l x = (0, l.take k ++ x :: l.drop k)) := Lib.hid (HPL.out k hk hno (fun _ => by simpa using hq))
            clear hno hown hx1 hg hbw hq hO0
            generalize l[k] = v at HK1 hq2
            obtain ⟨vid, vm, vp, vx, vc, vcL, vcC⟩ := v
            unfold Iq.at at HK1
            simp only at HK1 hq2
            go_wp2_with fail
            refine wp_region_held_drew (S := (fun V => Below wr.heap.size wr V)) (by kernel_rfl) (by exact (Below.refl _ _).drew) (fun hHeld => ?_)
            refine wpAnyH_take (i := 0) (oi := { dst := some 21, op := _, type := _, pos := _, after := _, guard := _ }) (v := ?_) rfl (by kernel_rfl) (by kernel_rfl) (by kernel_rfl) (fun _ _ _ h => h) (Or.inl ⟨by rfl, ?_⟩) hHeld ?_
            rotate_left
            · (intro w hSw; obtain ⟨g0, g1, g2, g3, g4⟩ := HK1.out _ hSw; obtain ⟨x0, x1, x2, x3, x4⟩ := (HXB.out _ hSw).got; go_simp <;> with_reducible rfl)
            try simp only [Act.put, List.setIfInBounds_toArray, List.set_cons_zero, List.set_cons_succ]
            refine wpAnyH_take (i := 1) (oi := { dst := some 22, op := _, type := _, pos := _, after := _, guard := _ }) (v := ?_) rfl (by kernel_rfl) (by kernel_rfl) (by kernel_rfl) (fun _ _ _ h => h) (Or.inl ⟨by rfl, ?_⟩) hHeld ?_
            rotate_left
            · (intro w hSw; obtain ⟨g0, g1, g2, g3, g4⟩ := HK1.out _ hSw; obtain ⟨x0, x1, x2, x3, x4⟩ := (HXB.out _ hSw).got; go_simp <;> with_reducible rfl)
            try simp only [Act.put, List.setIfInBounds_toArray, List.set_cons_zero, List.set_cons_succ]
            refine wpAnyH_take (i := 2) (oi := { dst := some 23, op := _, type := _, pos := _, after := _, guard := _ }) (v := ?_) rfl (by kernel_rfl) (by kernel_rfl) (by kernel_rfl) (fun _ _ _ h => h) (Or.inl ⟨by rfl, ?_⟩) hHeld ?_
            rotate_left
            · (intro w hSw; obtain ⟨g0, g1, g2, g3, g4⟩ := HK1.out _ hSw; obtain ⟨x0, x1, x2, x3, x4⟩ := (HXB.out _ hSw).got; go_simp <;> with_reducible rfl)
            try simp only [Act.put, List.setIfInBounds_toArray, List.set_cons_zero, List.set_cons_succ]
            refine wpAnyH_take (i := 3) (oi := { dst := some 24, op := _, type := _, pos := _, after := _, guard := _ }) (v := ?_) rfl (by kernel_rfl) (by kernel_rfl) (by kernel_rfl) (fun _ _ _ h => h) (Or.inl ⟨by rfl, ?_⟩) hHeld ?_
            rotate_left
            · (intro w hSw; obtain ⟨g0, g1, g2, g3, g4⟩ := HK1.out _ hSw; obtain ⟨x0, x1, x2, x3, x4⟩ := (HXB.out _ hSw).got; go_simp <;> with_reducible rfl)
            try simp only [Act.put, List.setIfInBounds_toArray, List.set_cons_zero, List.set_cons_succ]
            refine wpAnyH_take (i := 4) (oi := { dst := some 25, op := _, type := _, pos := _, after := _, guard := _ }) (v := ?_) rfl (by kernel_rfl) (by kernel_rfl) (by kernel_rfl) (fun _ _ _ h => h) (Or.inl ⟨by rfl, ?_⟩) hHeld ?_
            rotate_left
            · (intro w hSw; obtain ⟨g0, g1, g2, g3, g4⟩ := HK1.out _ hSw; obtain ⟨x0, x1, x2, x3, x4⟩ := (HXB.out _ hSw).got; go_simp <;> with_reducible rfl)
            try simp only [Act.put, List.setIfInBounds_toArray, List.set_cons_zero, List.set_cons_succ]
            refine wpAnyH_take (i := 5) (oi := { dst := some 26, op := _, type := _, pos := _, after := _, guard := _ }) (v := ?_) rfl (by kernel_rfl) (by kernel_rfl) (by kernel_rfl) (fun _ _ _ h => h) (Or.inl ⟨by rfl, ?_⟩) hHeld ?_
            rotate_left
            · (intro w hSw; obtain ⟨g0, g1, g2, g3, g4⟩ := HK1.out _ hSw; obtain ⟨x0, x1, x2, x3, x4⟩ := (HXB.out _ hSw).got; go_simp <;> with_reducible rfl)
            try simp only [Act.put, List.setIfInBounds_toArray, List.set_cons_zero, List.set_cons_succ]
            refine wpAnyH_take (i := 6) (oi := { dst := some 27, op := _, type := _, pos := _, after := _, guard := _ }) (v := ?_) rfl (by kernel_rfl) (by kernel_rfl) (by kernel_rfl) (fun _ _ _ h => h) (Or.inl ⟨by rfl, ?_⟩) hHeld ?_
            rotate_left
            · (intro w hSw; obtain ⟨g0, g1, g2, g3, g4⟩ := HK1.out _ hSw; obtain ⟨x0, x1, x2, x3, x4⟩ := (HXB.out _ hSw).got; go_simp <;> with_reducible rfl)
            try simp only [Act.put, List.setIfInBounds_toArray, List.set_cons_zero, List.set_cons_succ]
            refine wpAnyH_take (i := 7) (oi := { dst := some 28, op := _, type := _, pos := _, after := _, guard := _ }) (v := ?_) rfl (by kernel_rfl) (by kernel_rfl) (by kernel_rfl) (fun _ _ _ h => h) (Or.inl ⟨by rfl, ?_⟩) hHeld ?_
            rotate_left
            · (intro w hSw; obtain ⟨g0, g1, g2, g3, g4⟩ := HK1.out _ hSw; obtain ⟨x0, x1, x2, x3, x4⟩ := (HXB.out _ hSw).got; go_simp <;> with_reducible rfl)
            try simp only [Act.put, List.setIfInBounds_toArray, List.set_cons_zero, List.set_cons_succ]
            refine wpAnyH_take (i := 8) (oi := { dst := some 29, op := _, type := _, pos := _, after := _, guard := _ }) (v := ?_) rfl (by kernel_rfl) (by kernel_rfl) (by kernel_rfl) (fun _ _ _ h => h) (Or.inl ⟨by rfl, ?_⟩) hHeld ?_
            rotate_left
            · (intro w hSw; obtain ⟨g0, g1, g2, g3, g4⟩ := HK1.out _ hSw; obtain ⟨x0, x1, x2, x3, x4⟩ := (HXB.out _ hSw).got; go_simp <;> with_reducible rfl)
            try simp only [Act.put, List.setIfInBounds_toArray, List.set_cons_zero, List.set_cons_succ]
            refine wpAnyH_take (i := 9) (oi := { dst := some 30, op := _, type := _, pos := _, after := _, guard := _ }) (v := ?_) rfl (by kernel_rfl) (by kernel_rfl) (by kernel_rfl) (fun _ _ _ h => h) (Or.inl ⟨by rfl, ?_⟩) hHeld ?_
            rotate_left
            · (intro w hSw; obtain ⟨g0, g1, g2, g3, g4⟩ := HK1.out _ hSw; obtain ⟨x0, x1, x2, x3, x4⟩ := (HXB.out _ hSw).got; go_simp <;> with_reducible rfl)
            try simp only [Act.put, List.setIfInBounds_toArray, List.set_cons_zero, List.set_cons_succ]
            refine wpAnyH_take (i := 10) (oi := { dst := some 31, op := _, type := _, pos := _, after := _, guard := _ }) (v := ?_) rfl (by kernel_rfl) (by kernel_rfl) (by kernel_rfl) (fun _ _ _ h => h) (Or.inl ⟨by rfl, ?_⟩) hHeld ?_
            rotate_left
            · (intro w hSw; obtain ⟨g0, g1, g2, g3, g4⟩ := HK1.out _ hSw; obtain ⟨x0, x1, x2, x3, x4⟩ := (HXB.out _ hSw).got; go_simp <;> with_reducible rfl)
            try simp only [Act.put, List.setIfInBounds_toArray, List.set_cons_zero, List.set_cons_succ]
            refine wpAnyH_take (i := 11) (oi := { dst := some 32, op := _, type := _, pos := _, after := _, guard := _ }) (v := ?_) rfl (by kernel_rfl) (by kernel_rfl) (by kernel_rfl) (fun _ _ _ h => h) (Or.inl ⟨by rfl, ?_⟩) hHeld ?_
            rotate_left
            · (intro w hSw; obtain ⟨g0, g1, g2, g3, g4⟩ := HK1.out _ hSw; obtain ⟨x0, x1, x2, x3, x4⟩ := (HXB.out _ hSw).got; go_simp <;> with_reducible rfl)
            try simp only [Act.put, List.setIfInBounds_toArray, List.set_cons_zero, List.set_cons_succ]
            refine wpAnyH_take (i := 12) (oi := { dst := some 33, op := _, type := _, pos := _, after := _, guard := _ }) (v := ?_) rfl (by kernel_rfl) (by kernel_rfl) (by kernel_rfl) (fun _ _ _ h => h) (Or.inl ⟨by rfl, ?_⟩) hHeld ?_
            rotate_left
            · (intro w hSw; obtain ⟨g0, g1, g2, g3, g4⟩ := HK1.out _ hSw; obtain ⟨x0, x1, x2, x3, x4⟩ := (HXB.out _ hSw).got; go_simp <;> with_reducible rfl)
            try simp only [Act.put, List.setIfInBounds_toArray, List.set_cons_zero, List.set_cons_succ]
            refine wpAnyH_take (i := 13) (oi := { dst := some 34, op := _, type := _, pos := _, after := _, guard := _ }) (v := ?_) rfl (by kernel_rfl) (by kernel_rfl) (by kernel_rfl) (fun _ _ _ h => h) (Or.inl ⟨by rfl, ?_⟩) hHeld ?_
            rotate_left
            · (intro w hSw; obtain ⟨g0, g1, g2, g3, g4⟩ := HK1.out _ hSw; obtain ⟨x0, x1, x2, x3, x4⟩ := (HXB.out _ hSw).got; go_simp <;> with_reducible rfl)
            try simp only [Act.put, List.setIfInBounds_toArray, List.set_cons_zero, List.set_cons_succ]
            refine wpAnyH_done (by kernel_rfl) ?_ _
            have HS1 : Hid (∀ V, Below wr.heap.size wr V → Sl V (some ⟨gb, 0, none⟩) (rc Iq.cells (l.take k))) := Lib.hid fun V hV => by rw [← rc_take Iq.len]; exact (Sl.of_own (HO.out V hV)).take _
            have hlt1 : (rc Iq.cells (l.take k)).length = k * 5 := by rw [rc_length Iq.len, List.length_take, Nat.min_eq_left (by omega)]
            have HL1 := Lib.hid hlt1
            clear hlt1
            go_wp2_with (first
              | (at_builtin; refine wpList_app rfl (.tmp 37) (.tmp 40) rfl EIq rfl rfl (own_nil _ _ _) (m := k) (news := rc Iq.cells (l.take k)) HL1.out (HS1.out _ hHeld) (rc_one Iq.one _) (by unfold maxLen; omega) (by omega) (Nat.le_refl _) ?_; intro A2 c2 w3 hown2 hg2 hb2; simp only [Nat.zero_add, List.nil_append] at hown2; obtain ⟨x0, x1, x2, x3, x4⟩ := (HXB.out _ (hHeld.trans (hb2.mono hHeld.size))).got)
              | (at_builtin; refine wpList_app rfl (.tmp 42) (.tmp 44) rfl EIq rfl rfl (hown2.alloc _) (m := 1) (news := x.cells) rfl (Sl.new_ _ _ _) (Iq.one _) (by unfold maxLen; omega) (by omega) (by have h1 := hb2.size; simp only [World.size_alloc, World.size_drew] at h1 ⊢; omega) ?_; intro A3 c3 w4 hown3 hg3 hb3)
              | (at_builtin; refine wpList_app rfl (.tmp 46) (.tmp 49) rfl EIq rfl rfl hown3 (m := l.length - k) (news := (rc Iq.cells (l.drop k))) (by rw [rc_length Iq.len, List.length_drop]) (by rw [← rc_drop Iq.len]; exact Sl.drop0 (Sl.of_own (HO.out _ (hHeld.trans ((hb2.trans (((Below.refl _ _).alloc hb2.size _).trans hb3)).mono hHeld.size))))) (rc_one Iq.one _) (by unfold maxLen; omega) (by omega) (by have h1 := hb2.size; have h2 := hb3.size; simp only [World.size_alloc, World.size_drew] at h1 h2 ⊢; omega) ?_; intro A4 c4 w5 hown4 hg4 hb4)
              | fail)
            have hBf := hB2.trans ((hHeld.mono (Nat.le_of_lt hxl)).trans ((hb2.trans (((Below.refl _ _).alloc hb2.size _).trans (hb3.trans hb4))).mono (Nat.le_trans (Nat.le_of_lt hxl) hHeld.size)))
            have hown5 := own_base hown4 (Nat.le_trans (Nat.le_of_lt hxl) hHeld.size)
            go_ret2
            refine ⟨⟨A4, c4, ?_, ?_⟩, hBf⟩
            · rw [HE.out]
              have e : (l.take k ++ x :: l.drop k).length = k + 1 + (l.length - k) := by simp; omega
              simp only [e]; rfl
            · rw [HE.out]
              have e : (l.take k ++ x :: l.drop k).length = k + 1 + (l.length - k) := by simp; omega
              simp only [e]
              rw [rc_append, rc_cons, ← List.append_assoc]
              exact hown5
        · obtain rfl : k = l.length := by omega
          have HE : Hid (putIR q l x = (0, l.take l.length ++ x :: l.drop l.length)) := Lib.hid (HPL.out _ (Nat.le_refl _) hno (fun h => absurd h (by omega)))
          have hO0 := HO.out wr (Below.refl _ _)
          have hdr : l.drop l.length = [] := List.drop_length ..
          clear hno hown hx1
          go_wp2_with fail
          refine wp_region_held_drew (S := (fun V => Below wr.heap.size wr V)) (by kernel_rfl) (by exact (Below.refl _ _).drew) (fun hHeld => ?_)
          refine wpAnyH_take (i := 0) (oi := { dst := some 21, op := _, type := _, pos := _, after := _, guard := _ }) (v := ?_) rfl (by kernel_rfl) (by kernel_rfl) (by kernel_rfl) (fun _ _ _ h => h) (Or.inl ⟨by rfl, ?_⟩) hHeld ?_
          rotate_left
          · (intro w hSw; obtain ⟨x0, x1, x2, x3, x4⟩ := (HXB.out _ hSw).got; go_simp <;> with_reducible rfl)
          try simp only [Act.put, List.setIfInBounds_toArray, List.set_cons_zero, List.set_cons_succ]
          refine wpAnyH_take (i := 1) (oi := { dst := some 22, op := _, type := _, pos := _, after := _, guard := _ }) (v := ?_) rfl (by kernel_rfl) (by kernel_rfl) (by kernel_rfl) (fun _ _ _ h => h) (Or.inl ⟨by rfl, ?_⟩) hHeld ?_
          rotate_left
          · (intro w hSw; obtain ⟨x0, x1, x2, x3, x4⟩ := (HXB.out _ hSw).got; go_simp <;> with_reducible rfl)
          try simp only [Act.put, List.setIfInBounds_toArray, List.set_cons_zero, List.set_cons_succ]
          refine wpAnyH_take (i := 2) (oi := { dst := some 23, op := _, type := _, pos := _, after := _, guard := _ }) (v := ?_) rfl (by kernel_rfl) (by kernel_rfl) (by kernel_rfl) (fun _ _ _ h => h) (Or.inl ⟨by rfl, ?_⟩) hHeld ?_
          rotate_left
          · (intro w hSw; obtain ⟨x0, x1, x2, x3, x4⟩ := (HXB.out _ hSw).got; go_simp <;> with_reducible rfl)
          try simp only [Act.put, List.setIfInBounds_toArray, List.set_cons_zero, List.set_cons_succ]
          refine wpAnyH_take (i := 3) (oi := { dst := some 24, op := _, type := _, pos := _, after := _, guard := _ }) (v := ?_) rfl (by kernel_rfl) (by kernel_rfl) (by kernel_rfl) (fun _ _ _ h => h) (Or.inl ⟨by rfl, ?_⟩) hHeld ?_
          rotate_left
          · (intro w hSw; obtain ⟨x0, x1, x2, x3, x4⟩ := (HXB.out _ hSw).got; go_simp <;> with_reducible rfl)
          try simp only [Act.put, List.setIfInBounds_toArray, List.set_cons_zero, List.set_cons_succ]
          refine wpAnyH_take (i := 4) (oi := { dst := some 25, op := _, type := _, pos := _, after := _, guard := _ }) (v := ?_) rfl (by kernel_rfl) (by kernel_rfl) (by kernel_rfl) (fun _ _ _ h => h) (Or.inl ⟨by rfl, ?_⟩) hHeld ?_
          rotate_left
          · (intro w hSw; obtain ⟨x0, x1, x2, x3, x4⟩ := (HXB.out _ hSw).got; go_simp <;> with_reducible rfl)
          try simp only [Act.put, List.setIfInBounds_toArray, List.set_cons_zero, List.set_cons_succ]
          refine wpAnyH_take (i := 5) (oi := { dst := some 26, op := _, type := _, pos := _, after := _, guard := _ }) (v := undef) rfl (by kernel_rfl) (by kernel_rfl) (by kernel_rfl) (fun _ _ _ h => h) (Or.inr ⟨by rfl, rfl⟩) hHeld ?_
          try simp only [Act.put, List.setIfInBounds_toArray, List.set_cons_zero, List.set_cons_succ]
          refine wpAnyH_take (i := 6) (oi := { dst := some 27, op := _, type := _, pos := _, after := _, guard := _ }) (v := undef) rfl (by kernel_rfl) (by kernel_rfl) (by kernel_rfl) (fun _ _ _ h => h) (Or.inr ⟨by rfl, rfl⟩) hHeld ?_
          try simp only [Act.put, List.setIfInBounds_toArray, List.set_cons_zero, List.set_cons_succ]
          refine wpAnyH_take (i := 7) (oi := { dst := some 28, op := _, type := _, pos := _, after := _, guard := _ }) (v := undef) rfl (by kernel_rfl) (by kernel_rfl) (by kernel_rfl) (fun _ _ _ h => h) (Or.inr ⟨by rfl, rfl⟩) hHeld ?_
          try simp only [Act.put, List.setIfInBounds_toArray, List.set_cons_zero, List.set_cons_succ]
          refine wpAnyH_take (i := 8) (oi := { dst := some 29, op := _, type := _, pos := _, after := _, guard := _ }) (v := undef) rfl (by kernel_rfl) (by kernel_rfl) (by kernel_rfl) (fun _ _ _ h => h) (Or.inr ⟨by rfl, rfl⟩) hHeld ?_
          try simp only [Act.put, List.setIfInBounds_toArray, List.set_cons_zero, List.set_cons_succ]
          refine wpAnyH_take (i := 9) (oi := { dst := some 30, op := _, type := _, pos := _, after := _, guard := _ }) (v := undef) rfl (by kernel_rfl) (by kernel_rfl) (by kernel_rfl) (fun _ _ _ h => h) (Or.inr ⟨by rfl, rfl⟩) hHeld ?_
          try simp only [Act.put, List.setIfInBounds_toArray, List.set_cons_zero, List.set_cons_succ]
          refine wpAnyH_take (i := 10) (oi := { dst := some 31, op := _, type := _, pos := _, after := _, guard := _ }) (v := undef) rfl (by kernel_rfl) (by kernel_rfl) (by kernel_rfl) (fun _ _ _ h => h) (Or.inr ⟨by rfl, rfl⟩) hHeld ?_
          try simp only [Act.put, List.setIfInBounds_toArray, List.set_cons_zero, List.set_cons_succ]
          refine wpAnyH_take (i := 11) (oi := { dst := some 32, op := _, type := _, pos := _, after := _, guard := _ }) (v := undef) rfl (by kernel_rfl) (by kernel_rfl) (by kernel_rfl) (fun _ _ _ h => h) (Or.inr ⟨by rfl, rfl⟩) hHeld ?_
          try simp only [Act.put, List.setIfInBounds_toArray, List.set_cons_zero, List.set_cons_succ]
          refine wpAnyH_take (i := 12) (oi := { dst := some 33, op := _, type := _, pos := _, after := _, guard := _ }) (v := undef) rfl (by kernel_rfl) (by kernel_rfl) (by kernel_rfl) (fun _ _ _ h => h) (Or.inr ⟨by rfl, rfl⟩) hHeld ?_
          try simp only [Act.put, List.setIfInBounds_toArray, List.set_cons_zero, List.set_cons_succ]
          refine wpAnyH_take (i := 13) (oi := { dst := some 34, op := _, type := _, pos := _, after := _, guard := _ }) (v := ?_) rfl (by kernel_rfl) (by kernel_rfl) (by kernel_rfl) (fun _ _ _ h => h) (Or.inl ⟨by rfl, ?_⟩) hHeld ?_
          rotate_left
          · (intro w hSw; obtain ⟨x0, x1, x2, x3, x4⟩ := (HXB.out _ hSw).got; go_simp <;> with_reducible rfl)
          try simp only [Act.put, List.setIfInBounds_toArray, List.set_cons_zero, List.set_cons_succ]
          refine wpAnyH_done (by kernel_rfl) ?_ _
          rcases hO0.2 with ⟨h0, h1⟩ | ⟨g', cap', cur', h0, _, _, h3, h4, _⟩
          · injection h0 with e1 e2 e3
            subst e1; subst e3
            have hrn : l = [] := List.eq_nil_of_length_eq_zero h1
            subst hrn
            simp only [List.length_nil] at *
            have HS1 : Hid (∀ V, Below wr.heap.size wr V → Sl V none (rc Iq.cells (([] : List Iq).take 0))) := Lib.hid fun V hV => by rw [← rc_take Iq.len]; exact (Sl.of_own (HO.out V hV)).take _
            have hlt1 : (rc Iq.cells (([] : List Iq).take 0)).length = 0 * 5 := by rw [rc_length Iq.len, List.length_take, Nat.min_eq_left (by omega)]
            have HL1 := Lib.hid hlt1
            clear hlt1
            go_wp2_with (first
              | (at_builtin; refine wpList_app rfl (.tmp 37) (.tmp 40) rfl EIq rfl rfl (own_nil _ _ _) (m := 0) (news := rc Iq.cells (([] : List Iq).take 0)) HL1.out (HS1.out _ hHeld) (rc_one Iq.one _) (by unfold maxLen; omega) (by omega) (Nat.le_refl _) ?_; intro A2 c2 w3 hown2 hg2 hb2; simp only [Nat.zero_add, List.nil_append] at hown2; obtain ⟨x0, x1, x2, x3, x4⟩ := (HXB.out _ (hHeld.trans (hb2.mono hHeld.size))).got)
              | (at_builtin; refine wpList_app rfl (.tmp 42) (.tmp 44) rfl EIq rfl rfl (hown2.alloc _) (m := 1) (news := x.cells) rfl (Sl.new_ _ _ _) (Iq.one _) (by unfold maxLen; omega) (by omega) (by have h1 := hb2.size; simp only [World.size_alloc, World.size_drew] at h1 ⊢; omega) ?_; intro A3 c3 w4 hown3 hg3 hb3)
              | (at_builtin; refine wpList_app rfl (.tmp 46) (.tmp 49) rfl EIq rfl rfl hown3 (m := 0) (news := []) rfl Sl.nil (by intro u hu; cases hu) (by unfold maxLen; omega) (by omega) (by have h1 := hb2.size; have h2 := hb3.size; simp only [World.size_alloc, World.size_drew] at h1 h2 ⊢; omega) ?_; intro A4 c4 w5 hown4 hg4 hb4)
              | fail)
            have hBf := hB2.trans ((hHeld.mono (Nat.le_of_lt hxl)).trans ((hb2.trans (((Below.refl _ _).alloc hb2.size _).trans (hb3.trans hb4))).mono (Nat.le_trans (Nat.le_of_lt hxl) hHeld.size)))
            have hown5 := own_base hown4 (Nat.le_trans (Nat.le_of_lt hxl) hHeld.size)
            go_ret2
            refine ⟨⟨A4, c4, ?_, ?_⟩, hBf⟩
            · rw [HE.out]
              have e : (([] : List Iq).take 0 ++ x :: ([] : List Iq).drop 0).length = 0 + 1 + 0 := by rw [hdr]; simp
              simp only [e]; rfl
            · rw [HE.out]
              have e : (([] : List Iq).take 0 ++ x :: ([] : List Iq).drop 0).length = 0 + 1 + 0 := by rw [hdr]; simp
              simp only [e]
              rw [rc_append, rc_cons, hdr, ← List.append_assoc]
              exact hown5
          · injection h0 with e1 e2 e3
            subst e1; subst e3
            unfold maxLen at h4
            by_cases hcr : cap = l.length
            · subst hcr
              have HS1 : Hid (∀ V, Below wr.heap.size wr V → Sl V (some ⟨g', 0, none⟩) (rc Iq.cells (l.take l.length))) := Lib.hid fun V hV => by rw [← rc_take Iq.len]; exact (Sl.of_own (HO.out V hV)).take _
              have hlt1 : (rc Iq.cells (l.take l.length)).length = l.length * 5 := by rw [rc_length Iq.len, List.length_take, Nat.min_eq_left (by omega)]
              have HL1 := Lib.hid hlt1
              clear hlt1
              go_wp2_with (first
                | (at_builtin; refine wpList_app rfl (.tmp 37) (.tmp 40) rfl EIq rfl rfl (own_nil _ _ _) (m := l.length) (news := rc Iq.cells (l.take l.length)) HL1.out (HS1.out _ hHeld) (rc_one Iq.one _) (by unfold maxLen; omega) (by omega) (Nat.le_refl _) ?_; intro A2 c2 w3 hown2 hg2 hb2; simp only [Nat.zero_add, List.nil_append] at hown2; obtain ⟨x0, x1, x2, x3, x4⟩ := (HXB.out _ (hHeld.trans (hb2.mono hHeld.size))).got)
                | (at_builtin; refine wpList_app rfl (.tmp 42) (.tmp 44) rfl EIq rfl rfl (hown2.alloc _) (m := 1) (news := x.cells) rfl (Sl.new_ _ _ _) (Iq.one _) (by unfold maxLen; omega) (by omega) (by have h1 := hb2.size; simp only [World.size_alloc, World.size_drew] at h1 ⊢; omega) ?_; intro A3 c3 w4 hown3 hg3 hb3)
                | (at_builtin; refine wpList_app rfl (.tmp 46) (.tmp 49) rfl EIq rfl rfl hown3 (m := 0) (news := []) rfl Sl.nil (by intro u hu; cases hu) (by unfold maxLen; omega) (by omega) (by have h1 := hb2.size; have h2 := hb3.size; simp only [World.size_alloc, World.size_drew] at h1 h2 ⊢; omega) ?_; intro A4 c4 w5 hown4 hg4 hb4)
                | fail)
              have hBf := hB2.trans ((hHeld.mono (Nat.le_of_lt hxl)).trans ((hb2.trans (((Below.refl _ _).alloc hb2.size _).trans (hb3.trans hb4))).mono (Nat.le_trans (Nat.le_of_lt hxl) hHeld.size)))
              have hown5 := own_base hown4 (Nat.le_trans (Nat.le_of_lt hxl) hHeld.size)
              go_ret2
              refine ⟨⟨A4, c4, ?_, ?_⟩, hBf⟩
              · rw [HE.out]
                have e : (l.take l.length ++ x :: l.drop l.length).length = l.length + 1 + 0 := by rw [hdr]; simp
                simp only [e]; rfl
              · rw [HE.out]
                have e : (l.take l.length ++ x :: l.drop l.length).length = l.length + 1 + 0 := by rw [hdr]; simp
                simp only [e]
                rw [rc_append, rc_cons, hdr, ← List.append_assoc]
                exact hown5
            · have hck : ¬ (cap = l.length) := hcr
              have HS1 : Hid (∀ V, Below wr.heap.size wr V → Sl V (some ⟨g', 0, none⟩) (rc Iq.cells (l.take l.length))) := Lib.hid fun V hV => by rw [← rc_take Iq.len]; exact (Sl.of_own (HO.out V hV)).take _
              have hlt1 : (rc Iq.cells (l.take l.length)).length = l.length * 5 := by rw [rc_length Iq.len, List.length_take, Nat.min_eq_left (by omega)]
              have HL1 := Lib.hid hlt1
              clear hlt1
              go_wp2_with (first
                | (at_builtin; refine wpList_app rfl (.tmp 37) (.tmp 40) rfl EIq rfl rfl (own_nil _ _ _) (m := l.length) (news := rc Iq.cells (l.take l.length)) HL1.out (HS1.out _ hHeld) (rc_one Iq.one _) (by unfold maxLen; omega) (by omega) (Nat.le_refl _) ?_; intro A2 c2 w3 hown2 hg2 hb2; simp only [Nat.zero_add, List.nil_append] at hown2; obtain ⟨x0, x1, x2, x3, x4⟩ := (HXB.out _ (hHeld.trans (hb2.mono hHeld.size))).got)
                | (at_builtin; refine wpList_app rfl (.tmp 42) (.tmp 44) rfl EIq rfl rfl (hown2.alloc _) (m := 1) (news := x.cells) rfl (Sl.new_ _ _ _) (Iq.one _) (by unfold maxLen; omega) (by omega) (by have h1 := hb2.size; simp only [World.size_alloc, World.size_drew] at h1 ⊢; omega) ?_; intro A3 c3 w4 hown3 hg3 hb3)
                | (at_builtin; refine wpList_app rfl (.tmp 46) (.tmp 49) rfl EIq rfl rfl hown3 (m := 0) (news := []) rfl Sl.nil (by intro u hu; cases hu) (by unfold maxLen; omega) (by omega) (by have h1 := hb2.size; have h2 := hb3.size; simp only [World.size_alloc, World.size_drew] at h1 h2 ⊢; omega) ?_; intro A4 c4 w5 hown4 hg4 hb4)
                | fail)
              have hBf := hB2.trans ((hHeld.mono (Nat.le_of_lt hxl)).trans ((hb2.trans (((Below.refl _ _).alloc hb2.size _).trans (hb3.trans hb4))).mono (Nat.le_trans (Nat.le_of_lt hxl) hHeld.size)))
              have hown5 := own_base hown4 (Nat.le_trans (Nat.le_of_lt hxl) hHeld.size)
              go_ret2
              refine ⟨⟨A4, c4, ?_, ?_⟩, hBf⟩
              · rw [HE.out]
                have e : (l.take l.length ++ x :: l.drop l.length).length = l.length + 1 + 0 := by rw [hdr]; simp
                simp only [e]; rfl
              · rw [HE.out]
                have e : (l.take l.length ++ x :: l.drop l.length).length = l.length + 1 + 0 := by rw [hdr]; simp
                simp only [e]
                rw [rc_append, rc_cons, hdr, ← List.append_assoc]
                exact hown5
    · have HR : Hid (putIR q l x = (12, [])) := Lib.hid (by rw [putIR, if_neg (by simpa using hok), if_pos hh])
      have HH := Lib.hid hh
      clear hok hh hat hfk hid hbefore hsd
      unfold Iq.val at HIS ⊢
      go_enter Tryd.func10, Tryd.ntmps10
      go_wp2_with fail
      refine (HIS.out _ hB0).mono ?_
      rintro e w1 ⟨rfl, hb1⟩
      have hB1 := since_step hB0 hb1
      have hx1 := hx0.below hb1
      have hown1 := own_below hown0 hb1
      obtain ⟨x0, x1, x2, x3, x4⟩ := hx1.got
      clear hb1
      rw [HI.out]
      go_wp2_with fail
      refine (HFD.out _ (Sl.of_own hown1)).mono ?_
      rintro e w2 ⟨rfl, hb2⟩
      have hB2' := since_step hB1 hb2
      have hx2 := hx1.below hb2
      have hown2' := own_below hown1 hb2
      clear x0 x1 x2 x3 x4 hb2 hown1 hx1 hx0 hown0
      rw [HH.out]
      generalize findI l x.id = fm
      unfold Iq.val
      have hB1 := since_alloc hB2' (.cells fm.cells.toArray 25)
      have hx1 := hx2.below ((Below.refl _ _).alloc (Nat.le_refl _) (.cells fm.cells.toArray 25))
      have hown := hown2'.alloc (.cells fm.cells.toArray 25)
      have hcs := @cell_set
      clear hB2' hx2 hown2'
      go_wp2_with fail
      go_ret2
      rw [HR.out]
      exact ⟨IRes.nil _ _ _, hB1⟩
structure GI (w : World) (g : Iq) (i : Ins) : Prop where
  id : g.id = i.id
  mult : g.mult = i.mult
  price : g.price = i.price
  nxt : g.nxt = i.nxt
  len : g.mvL = i.mv.length
  at_ : InsAt w i g.mv g.mvC
theorem GI.below {w w' : World} {g : Iq} {i : Ins} (h : GI w g i) (hb : Below w.heap.size w w') : GI w' g i := ⟨h.id, h.mult, h.price, h.nxt, h.len, h.at_.below hb⟩
theorem GI.val {w : World} {g : Iq} {i : Ins} (h : GI w g i) : g.val = insV i g.mv g.mvC := by
  obtain ⟨a, b, c, d, e, f, k⟩ := g
  obtain ⟨h0, h1, h2, h3, h4, _⟩ := h
  simp only at h0 h1 h2 h3 h4
  subst h0; subst h1; subst h2; subst h3; subst h4
  rfl
def GoodI (w : World) (l : List Iq) : Prop := ∀ g ∈ l, ∃ i : Ins, GI w g i
theorem GoodI.below {w w' : World} {l : List Iq} (h : GoodI w l) (hb : Below w.heap.size w w') : GoodI w' l := fun g hg => by
  obtain ⟨i, hi⟩ := h g hg
  exact ⟨i, hi.below hb⟩
def InTab (w : World) (l : List Iq) (is : List Ins) : Prop := l.length = is.length ∧ ∀ k, (h : k < l.length) → (h2 : k < is.length) → GI w l[k] is[k]
theorem InTab.below {w w' : World} {l : List Iq} {is : List Ins} (h : InTab w l is) (hb : Below w.heap.size w w') : InTab w' l is := ⟨h.1, fun k h1 h2 => (h.2 k h1 h2).below hb⟩
theorem InTab.nil (w : World) : InTab w [] [] := ⟨rfl, fun k h => by simp at h⟩
theorem InTab.cons {w : World} {g : Iq} {i : Ins} {l : List Iq} {is : List Ins} (h : GI w g i) (ht : InTab w l is) : InTab w (g :: l) (i :: is) :=
  ⟨by simp [ht.1], fun k h1 h2 => by
    cases k with
    | zero => exact h
    | succ k => exact ht.2 k (by simpa using h1) (by simpa using h2)⟩
theorem GoodI.tab {w : World} : ∀ {l : List Iq}, GoodI w l → ∃ is : List Ins, InTab w l is
  | [], _ => ⟨[], InTab.nil w⟩
  | g :: l, h => by
    obtain ⟨is, ht⟩ := GoodI.tab (l := l) fun x hx => h x (List.mem_cons_of_mem _ hx)
    obtain ⟨i, hi⟩ := h g List.mem_cons_self
    exact ⟨i :: is, InTab.cons hi ht⟩
def fndI (is : List Ins) (id : Int) : Option Ins := is.find? fun i => i.id == id
theorem InTab.find {w : World} (id : Int) : ∀ {l : List Iq} {is : List Ins}, InTab w l is → (l.find? (idI id) = none ∧ fndI is id = none) ∨ (∃ g i, l.find? (idI id) = some g ∧ fndI is id = some i ∧ GI w g i)
  | [], [], _ => .inl ⟨rfl, rfl⟩
  | [], _ :: _, h => by have := h.1; simp at this
  | _ :: _, [], h => by have := h.1; simp at this
  | g :: l, i :: is, h => by
    have h0 := h.2 0 (by simp) (by simp)
    have ht : InTab w l is := ⟨by simpa using h.1, fun k h1 h2 => h.2 (k + 1) (by simpa using h1) (by simpa using h2)⟩
    simp only [List.getElem_cons_zero] at h0
    unfold fndI
    rw [List.find?_cons, List.find?_cons]
    have e : idI id g = (i.id == id) := by unfold idI; rw [h0.id]
    rw [e]
    cases hq : (i.id == id) with
    | true => exact .inr ⟨g, i, rfl, rfl, h0⟩
    | false => exact InTab.find id ht
theorem mem_fndI {is : List Ins} {id : Int} {i : Ins} (h : fndI is id = some i) : i ∈ is := List.mem_of_find?_eq_some h
def FIns (w' : World) (e : Ending) (r : Option Ins) : Prop :=
  match r with
  | none => e = .returned (.tuple #[.agg #[.int .i64 0, .int .i64 0, .int .i64 0, .int .i64 0, .slice none 0 0], .bool false])
  | some i => ∃ A' c', e = .returned (.tuple #[insV i A' c', .bool true]) ∧ InsAt w' i A' c'
theorem rfindI_any (A : Option Addr) (cap : Nat) (l : List Iq) (is : List Ins) (id : Int) (w : World) (hl : l.length ≤ 900000) (hs : Sl w A (rc Iq.cells l)) (ht : InTab w l is) :
    Calls Tryd.prog 14 #[.slice A l.length cap, .int .i64 id] w fun e w' => FIns w' e (fndI is id) ∧ Below w.heap.size w w' := by
  refine (rfindi_any A cap l id w (by omega) hs).mono fun e w' ⟨he, hb⟩ => ⟨?_, hb⟩
  rcases ht.find id with ⟨h1, h2⟩ | ⟨g, i, h1, h2, h3⟩
  · rcases casesI l id with ⟨hh, _, hz, _⟩ | ⟨k, hk, hh, _⟩
    · rw [h2]; rw [hz, hh] at he; exact he
    · rw [hasI, h1] at hh; cases hh
  · rcases casesI l id with ⟨hh, _⟩ | ⟨k, hk, hh, _, hf, _⟩
    · rw [hasI, h1] at hh; cases hh
    · have hg : findI l id = g := by rw [findI, pickL, h1]; rfl
      rw [h2]
      rw [hh, hg, h3.val] at he
      exact ⟨_, _, he, h3.at_.below hb⟩
set_option maxHeartbeats 1000000 in
set_option maxRecDepth 100000 in
theorem iplace1_any (x : Iq) (id : Int) (b : Nat) (w : World) (h0 : w.cell? ⟨b, 0, none⟩ = some (.int .i64 id)) :
    Calls Tryd.prog 32 #[x.val, .pointer (some ⟨b, 0, none⟩)] w fun e w' => e = .returned (.bool (idI id x)) ∧ Below w.heap.size w w' := by
  have hB := since_alloc (Below.refl _ w) (.cells x.cells.toArray 25)
  have hlt := World.block_lt_of_cell? _ _ h0
  unfold Iq.val
  go_enter Tryd.func32, Tryd.ntmps32
  go_wp2_with fail
  go_ret
  exact ⟨rfl, hB⟩
theorem ent_iplace1 : Ent Tryd.prog 32 := Ent.of (by kernel_rfl)
theorem tells_iplace1 (id : Int) (b : Nat) (w : World) (h : w.cell? ⟨b, 0, none⟩ = some (.int .i64 id)) : Iq.Tells 32 #[.pointer (some ⟨b, 0, none⟩)] (idI id) w.heap.size w :=
  fun x W hW => iplace1_any x id b W ((hW.cell (p := ⟨b, 0, none⟩) (World.block_lt_of_cell? _ _ h)).trans h)
set_option maxHeartbeats 1000000 in
set_option maxRecDepth 100000 in
theorem iplace_any (A : Option Addr) (cap : Nat) (l : List Iq) (id : Int) (w : World) (hl : l.length ≤ 1000000) (hs : Sl w A (rc Iq.cells l)) :
    Calls Tryd.prog 22 #[.slice A l.length cap, .int .i64 id] w fun e w' => e = .returned (.int .i64 (atL (idI id) l)) ∧ Below w.heap.size w w' := by
  go_enter Tryd.func22, Tryd.ntmps22
  go_wp2_with fail
  refine (index_iq A cap l 32 #[.pointer (some ⟨w.heap.size, 0, none⟩)] (idI id) _ hl (hs.alloc _) ent_iplace1 (tells_iplace1 id w.heap.size _ (by simp))).mono ?_
  rintro e w1 ⟨rfl, hb1⟩
  have hB1 := since_step (since_alloc (Below.refl _ _) _) hb1
  clear hb1
  go_wp2_with fail
  go_ret
  exact ⟨rfl, hB1⟩
theorem sx_ints : ∀ l : List Int, rc Sx.cells (l.map Sx.mk) = ints .i64 l
  | [] => rfl
  | x :: l => by rw [List.map_cons, rc_cons, sx_ints l]; rfl
set_option maxHeartbeats 4000000 in
set_option maxRecDepth 100000 in
theorem ifind_any (A : Option Addr) (cap : Nat) (l : List Iq) (is : List Ins) (id : Int) (w : World) (hl : l.length ≤ 900000) (hcl : ∀ i ∈ is, i.mv.length ≤ 900000) (hs : Sl w A (rc Iq.cells l)) (ht : InTab w l is) :
    Calls Tryd.prog 13 #[.slice A l.length cap, .int .i64 id] w fun e w' => FIns w' e (fndI is id) ∧ Below w.heap.size w w' := by
  have hB0 := since_alloc (Below.refl _ w) (.cells #[.int .i64 0, .int .i64 0, .int .i64 0, .int .i64 0, .slice none 0 0] 25)
  have hZ0 := BzIq.new w
  have hs0 := hs.alloc (.cells #[.int .i64 0, .int .i64 0, .int .i64 0, .int .i64 0, .slice none 0 0] 25)
  have ht0 := ht.below ((Below.refl _ _).alloc (Nat.le_refl _) (.cells #[.int .i64 0, .int .i64 0, .int .i64 0, .int .i64 0, .slice none 0 0] 25))
  have hfd := ht.find id
  have HPL := Lib.hid (fun V h => iplace_any A cap l id V (by omega) h)
  have hcs := @cell_set
  clear hs ht
  rcases casesI l id with ⟨h0, hat, _, hn⟩ | ⟨k, hk, h0, hat, hf, hid, _⟩
  · have HR : Hid (fndI is id = none) := Lib.hid (by rcases hfd with ⟨_, h⟩ | ⟨g, i, h, _⟩; exact h; rw [hn] at h; cases h)
    have HAT := Lib.hid hat
    clear hfd h0 hat hn
    go_enter Tryd.func13, Tryd.ntmps13
    go_wp2_with fail
    refine (HPL.out _ hs0).mono ?_
    rw [HAT.out]
    rintro e w1 ⟨rfl, hb⟩
    have hB1 := since_step hB0 hb
    have hZ1 := hZ0.below hb
    clear hb
    obtain ⟨z0, z1, z2, z3, z4⟩ := hZ1.got
    have fz := hZ1.fz
    have lz := hZ1.bk.1
    go_wp2_with fail
    refine bodyPost_ret (v := .tuple #[.agg #[.int .i64 0, .int .i64 0, .int .i64 0, .int .i64 0, .slice none 0 0], .bool false]) ?_ rfl ⟨?_, ?_⟩
    · simp [results, Tryd.results13, go_sem, z0, z1, z2, z3, z4, fz]
    · rw [HR.out]; rfl
    · repeat' (first | with_reducible exact hB1 | with_reducible refine Below.setCell ?_ ?_ _ | with_reducible refine Below.alloc ?_ ?_ _)
      all_goals first | (simp; done) | (simp; omega)
  · obtain ⟨i, hc1, hc2, hc3⟩ : ∃ i, fndI is id = some i ∧ GI (w.alloc (.cells #[.int .i64 0, .int .i64 0, .int .i64 0, .int .i64 0, .slice none 0 0] 25)) l[k] i ∧ i.mv.length ≤ 900000 := by
      rcases hfd with ⟨h, _⟩ | ⟨g, i, h1, h2, h3⟩
      · rw [hasI, h] at h0; cases h0
      · have hg : findI l id = g := by rw [findI, pickL, h1]; rfl
        rw [hf] at hg
        rw [hg]
        exact ⟨i, h2, h3.below ((Below.refl _ _).alloc (Nat.le_refl _) _), hcl i (mem_fndI h2)⟩
    have HR := Lib.hid hc1
    have HAT := Lib.hid hat
    have hk0 : ¬ ((k : Int) < 0) := by omega
    have hk1 : (0 : Int) ≤ (k : Int) := by omega
    have hk2 : (k : Int) < (l.length : Int) := by omega
    clear hfd h0 hat hf hc1 hcl hid
    go_enter Tryd.func13, Tryd.ntmps13
    go_wp2_with fail
    refine (HPL.out _ hs0).mono ?_
    rw [HAT.out]
    rintro e w1 ⟨rfl, hb⟩
    have hB1 := since_step hB0 hb
    have hZ1 := hZ0.below hb
    have hi1 := hc2.below hb
    obtain ⟨b, o, rfl, hbw, hg⟩ := (hs0.below hb).iq hk
    clear hb hc2
    generalize l[k] = v at *
    obtain ⟨a0, a1, a2, a3, p1, aL, p2⟩ := v
    obtain ⟨i0, i1, i2, i3, i4, hat2⟩ := hi1
    simp only at i0 i1 i2 i3 i4 hat2
    subst i0; subst i1; subst i2; subst i3; subst i4
    obtain ⟨g0, g1, g2, g3, g4⟩ := hg
    simp only at g0 g1 g2 g3 g4
    have hsl : Sl w1 p1 (rc Sx.cells (i.mv.map Sx.mk)) := by rw [sx_ints]; exact hat2.sl
    have HML : Hid ((i.mv.map Sx.mk).length = i.mv.length) := Lib.hid (by simp)
    have HDU := dup1_iq i.id i.mult i.price i.nxt p1 p2 (i.mv.map Sx.mk) w1 (by rw [HML.out]; exact hc3) hsl
    rw [HML.out, sx_ints] at HDU
    have HDU := Lib.hid HDU
    have HIA := Lib.hid hat2
    clear hsl hat2
    go_wp2_with fail
    refine HDU.out.mono ?_
    rintro e w2 ⟨⟨A3, c3, rfl, own3⟩, hb2⟩
    have hB2 := since_step hB1 hb2
    have hZ2 := hZ1.below hb2
    have lz1 := hZ1.bk.1
    clear hb2 g0 g1 g2 g3 g4
    obtain ⟨z0, z1, z2, z3, z4⟩ := hZ2.got
    have fz := hZ2.fz
    have lz := hZ2.bk.1
    have hcp := own_capI own3
    go_wp2_with fail
    refine bodyPost_ret (v := .tuple #[.agg #[.int .i64 i.id, .int .i64 i.mult, .int .i64 i.price, .int .i64 i.nxt, .slice A3 i.mv.length c3], .bool true]) ?_ rfl ⟨?_, ?_⟩
    · simp [results, Tryd.results13, go_sem, z0, z1, z2, z3, z4, fz, hcs]
    · rw [HR.out]
      refine ⟨A3, c3, rfl, ⟨hcp, Sl.of_own (base := w1.heap.size) (e := 2) (size := 1) (n := i.mv.length) (c := c3) ?_, HIA.out.mv64, HIA.out.n64⟩⟩
      repeat' (first | with_reducible exact own3 | with_reducible refine own_setFar' ?_ ?_ _)
      all_goals first | (simp; done) | (simp; omega)
    · repeat' (first | with_reducible exact hB2 | with_reducible refine Below.setCell ?_ ?_ _ | with_reducible refine Below.alloc ?_ ?_ _)
      all_goals first | (simp; done) | (simp; omega)
end Go.Proofs.YtldnponbkhgijaaDoor
end
