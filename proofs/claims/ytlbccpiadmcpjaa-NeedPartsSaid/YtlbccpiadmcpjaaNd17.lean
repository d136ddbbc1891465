import Derived.Test.YtlbccpiadmcpjaaNd01
import Derived.BigQuiet
import Derived.Deep.QuietTactic
import Derived.IntWalk
import Derived.BigRegion
import Derived.Deep.RegionWith
import Derived.Deep.DeepCutAuto
import Derived.Test.YtlbccpiadmcpjaaNd16
import Derived.Deep.CutBlock
import Derived.Deep.CutRange
import Derived.Deep.RegionHeld3
section
namespace Go.Proofs.Ytlbccpiadmcpjaa
open Go.ChangeShapes Go.WideShapes Go.ChangeAt Go.RowKit
set_option linter.unusedVariables false
set_option linter.unusedSimpArgs false

def bval : List Nat → Nat
  | [] => 0
  | b :: l => b + 2 * bval l
def Bin (l : List Nat) : Prop := ∀ b ∈ l, b ≤ 1
def Norm (l : List Nat) : Prop := Bin l ∧ ∀ k, (h : k < l.length) → l.length = k + 1 → l[k] = 1
theorem Bin.nil : Bin [] := fun b h => by cases h
theorem Norm.nil : Norm [] := ⟨Bin.nil, fun k h => by simp at h⟩
theorem Bin.take {l : List Nat} (h : Bin l) (n : Nat) : Bin (l.take n) := fun b hb => h b (List.mem_of_mem_take hb)
theorem Bin.at_ {l : List Nat} (h : Bin l) {k : Nat} (hk : k < l.length) : l[k] ≤ 1 := h _ (List.getElem_mem hk)
theorem bval_append (a b : List Nat) : bval (a ++ b) = bval a + 2 ^ a.length * bval b := by
  induction a with
  | nil => simp [bval]
  | cons x a ih =>
    simp only [List.cons_append, bval, ih, List.length_cons, Nat.pow_succ]
    rw [Nat.mul_add, Nat.mul_comm (2 ^ a.length) 2, Nat.mul_assoc]
    omega
theorem bval_snoc (a : List Nat) (x : Nat) : bval (a ++ [x]) = bval a + 2 ^ a.length * x := by
  rw [bval_append]; simp [bval]
theorem bval_take (l : List Nat) (k : Nat) (h : k < l.length) : bval (l.take (k + 1)) = bval (l.take k) + 2 ^ k * l[k] := by
  rw [take_snoc l k h, bval_snoc, List.length_take, Nat.min_eq_left (by omega)]
theorem bval_lt {l : List Nat} (h : Bin l) : bval l < 2 ^ l.length := by
  induction l with
  | nil => simp [bval]
  | cons x l ih =>
    have := ih fun b hb => h b (by simp [hb])
    have h1 := h x (by simp)
    simp only [bval, List.length_cons, Nat.pow_succ]
    omega
theorem Norm.ge {l : List Nat} (h : Norm l) {k : Nat} (hk : l.length = k + 1) : 2 ^ k ≤ bval l := by
  have h1 := bval_take l k (by omega)
  rw [List.take_of_length_le (by omega), h.2 k (by omega) hk] at h1
  omega
theorem Norm.zero {l : List Nat} (h : Norm l) : bval l = 0 ↔ l = [] := by
  constructor
  · intro e
    cases hl : l.length with
    | zero => exact List.eq_nil_of_length_eq_zero hl
    | succ k => have := h.ge hl; have := Nat.pow_pos (n := k) (show 0 < 2 by omega); omega
  · rintro rfl; rfl
theorem Norm.len_le {l : List Nat} (h : Norm l) {n : Nat} (hv : bval l < 2 ^ n) : l.length ≤ n := by
  cases hl : l.length with
  | zero => omega
  | succ k =>
    have h1 := h.ge hl
    refine Decidable.byContradiction fun hn => ?_
    have : 2 ^ n ≤ 2 ^ k := Nat.pow_le_pow_right (by omega) (by omega)
    omega
theorem Norm.len_iff {l : List Nat} (h : Norm l) (n : Nat) : l.length ≤ n ↔ bval l < 2 ^ n := by
  refine ⟨fun hl => ?_, h.len_le⟩
  have := bval_lt h.1
  have : 2 ^ l.length ≤ 2 ^ n := Nat.pow_le_pow_right (by omega) hl
  omega
structure BigAt (w : World) (neg : Bool) (A : Option Addr) (n c : Nat) (z : Int) : Prop where
  ex : ∃ bits : List Nat, bits.length = n ∧ n ≤ c ∧ c ≤ maxLen ∧ Sl w A (by8 bits) ∧ Norm bits ∧ (neg = true → bits ≠ []) ∧ z = if neg = true then -(bval bits : Int) else (bval bits : Int)
theorem BigAt.below {w w' : World} {neg : Bool} {A : Option Addr} {n c : Nat} {z : Int} (h : BigAt w neg A n c z) (hb : Below w.heap.size w w') : BigAt w' neg A n c z := by
  obtain ⟨bits, h1, h2, h3, h4, h5, h6, h7⟩ := h.ex
  exact ⟨bits, h1, h2, h3, h4.below hb, h5, h6, h7⟩
theorem BigAt.alloc {w : World} {neg : Bool} {A : Option Addr} {n c : Nat} {z : Int} (h : BigAt w neg A n c z) (o : Obj) : BigAt (w.alloc o) neg A n c z := h.below ((Below.refl _ _).alloc (Nat.le_refl _) o)
theorem BigAt.drew {w : World} {neg : Bool} {A : Option Addr} {n c : Nat} {z : Int} (h : BigAt w neg A n c z) : BigAt w.drew neg A n c z := h.below ⟨rfl, rfl, rfl, Nat.le_refl _, fun _ _ => rfl⟩
theorem BigAt.zero (w : World) : BigAt w false none 0 0 0 := ⟨[], rfl, Nat.le_refl _, by decide, Sl.nil, Norm.nil, (fun h => nomatch h), rfl⟩
theorem BigAt.len {w : World} {neg : Bool} {A : Option Addr} {n c : Nat} {z : Int} (h : BigAt w neg A n c z) {k : Nat} : n ≤ k ↔ z.natAbs < 2 ^ k := by
  obtain ⟨bits, h1, h2, h3, h4, h5, h6, h7⟩ := h.ex
  rw [← h1, h5.len_iff, h7]
  cases neg <;> simp
end Go.Proofs.Ytlbccpiadmcpjaa
end
section
namespace Go.Proofs.Ytlbccpiadmcpjaa
open Go.ChangeShapes Go.WideShapes Go.ChangeAt Go.RowKit
set_option linter.unusedVariables false
set_option linter.unusedSimpArgs false

def RB (w : World) (g : Nat) : Prop := g < w.heap.size ∧ w.cell? ⟨g, 0, none⟩ = some (.bool false) ∧ w.cell? ⟨g, 1, none⟩ = some (.slice none 0 0) ∧ ∀ i, w.frozen? ⟨g, i, none⟩ = false
theorem RB.new (w : World) (t : TypeId) : RB (w.alloc (.cells #[.bool false, .slice none 0 0] t)) w.heap.size := ⟨by simp, by simp, by simp, fun i => by simp⟩
theorem RB.far {w w' : World} {B g : Nat} (h : RB w g) (hb : Below B w w') (hg : g < B) : RB w' g :=
  ⟨Nat.lt_of_lt_of_le h.1 hb.size, (hb.cell (p := ⟨g, 0, none⟩) hg).trans h.2.1, (hb.cell (p := ⟨g, 1, none⟩) hg).trans h.2.2.1, fun i => (hb.frozen (p := ⟨g, i, none⟩) hg).trans (h.2.2.2 i)⟩
theorem RB.below {w w' : World} {g : Nat} (h : RB w g) (hb : Below w.heap.size w w') : RB w' g := h.far hb h.1
theorem RB.alloc {w : World} {g : Nat} (h : RB w g) (o : Obj) : RB (w.alloc o) g := h.below ((Below.refl _ _).alloc (Nat.le_refl _) o)
def Fr (B : Nat) (A : Option Addr) (n : Nat) : Prop := ∀ b o, A = some ⟨b, o, none⟩ → 0 < n → B ≤ b
theorem Fr.own {w : World} {base : Nat} {e : TypeId} {size n c : Nat} {A : Option Addr} {xs : List Value} (h : w.ownsRow base e size (.slice A n c) n xs) : Fr base A n := by
  intro b o hA hn
  obtain ⟨g, e1, e2, _⟩ := own_at h hn
  rw [hA] at e1
  injection e1 with e1
  injection e1 with e1
  omega
theorem BigAt.far {w : World} {neg : Bool} {A : Option Addr} {n c : Nat} {z : Int} (h : BigAt w neg A n c z) {p : Addr} (hp : ∀ b o, A = some ⟨b, o, none⟩ → 0 < n → b ≠ p.block) (v : Value) : BigAt (w.setCell p v) neg A n c z := by
  obtain ⟨bits, h1, h2, h3, h4, h5, h6, h7⟩ := h.ex
  refine ⟨bits, h1, h2, h3, ?_, h5, h6, h7⟩
  rcases Nat.eq_zero_or_pos n with h0 | h0
  · rw [h0] at h1
    rw [List.eq_nil_of_length_eq_zero h1]
    exact Sl.nil
  · exact h4.far (fun b o hA => hp b o hA h0) v
end Go.Proofs.Ytlbccpiadmcpjaa
end
section
namespace Go.Proofs.Ytlbccpiadmcpjaa
open Go.ChangeShapes Go.WideShapes Go.ChangeAt Go.RowKit
set_option linter.unusedVariables false
set_option linter.unusedSimpArgs false

def BB (w : World) (g : Nat) (s : Bool) (A : Option Addr) (n c : Nat) : Prop := g < w.heap.size ∧ w.cell? ⟨g, 0, none⟩ = some (.bool s) ∧ w.cell? ⟨g, 1, none⟩ = some (.slice A n c) ∧ w.frozen? ⟨g, 0, none⟩ = false ∧ w.frozen? ⟨g, 1, none⟩ = false
section
variable {w w' : World} {g : Nat} {s : Bool} {A : Option Addr} {n c : Nat}
theorem BB.new (w : World) (s : Bool) (A : Option Addr) (n c : Nat) (t : TypeId) : BB (w.alloc (.cells #[.bool s, .slice A n c] t)) w.heap.size s A n c := by
  refine ⟨by simp, ?_, ?_, ?_, ?_⟩ <;> simp
theorem BB.below (h : BB w g s A n c) (hb : Below w.heap.size w w') : BB w' g s A n c := by
  obtain ⟨h0, h1, h2, f1, f2⟩ := h
  exact ⟨Nat.lt_of_lt_of_le h0 hb.size, (hb.cell (p := ⟨g, 0, none⟩) h0).trans h1, (hb.cell (p := ⟨g, 1, none⟩) h0).trans h2, (hb.frozen (p := ⟨g, 0, none⟩) h0).trans f1, (hb.frozen (p := ⟨g, 1, none⟩) h0).trans f2⟩
theorem BB.alloc (h : BB w g s A n c) (o : Obj) : BB (w.alloc o) g s A n c := h.below ((Below.refl _ _).alloc (Nat.le_refl _) o)
theorem BB.drew (h : BB w g s A n c) : BB w.drew g s A n c := h
end
theorem BigAt.lt {w : World} {neg : Bool} {A : Option Addr} {n c : Nat} {z : Int} (h : BigAt w neg A n c z) : ∀ b o, A = some ⟨b, o, none⟩ → 0 < n → b < w.heap.size := by
  intro b o hA hn
  obtain ⟨bits, h1, h2, h3, h4, _⟩ := h.ex
  obtain ⟨b', o', e, hc⟩ := h4.byte (j := 0) (by omega)
  rw [hA] at e
  injection e with e
  injection e with e1 e2
  subst e1
  exact World.block_lt_of_cell? _ _ hc
end Go.Proofs.Ytlbccpiadmcpjaa
end
section
namespace Go.Proofs.Ytlbccpiadmcpjaa
open Go.ChangeShapes Go.WideShapes Go.ChangeAt Go.RowKit
set_option linter.unusedVariables false
set_option linter.unusedSimpArgs false

def bigR (w w' : World) (e : Ending) (z : Int) : Prop := ∃ s A n c, e = .returned (.agg #[.bool s, .slice A n c]) ∧ Fr w.heap.size A n ∧ BigAt w' s A n c z
theorem bigR.of {w w' : World} {e : Ending} {z : Int} (h : ∃ A n c, e = .returned (.agg #[.bool (decide (z < 0)), .slice A n c]) ∧ Fr w.heap.size A n ∧ BigAt w' (decide (z < 0)) A n c z) : bigR w w' e z := ⟨_, h⟩
section
variable {w w1 w2 : World} {sx sy s : Bool} {A B C : Option Addr} {na nb n ca cb c : Nat} {x y z : Int}
end

def cmpZ (x y : Int) : Int := if x = y then 0 else if x < y then -1 else 1
def inN (x : Int) (m : Nat) : Prop := (if x < 0 then (x + 1).natAbs else x.natAbs) < 2 ^ m
instance (x : Int) (m : Nat) : Decidable (inN x m) := by unfold inN; infer_instance
end Go.Proofs.Ytlbccpiadmcpjaa
end
section
namespace Go.Proofs.Ytlbccpiadmcpjaa
open Go.ChangeShapes Go.WideShapes Go.ChangeAt Go.RowKit
set_option linter.unusedVariables false
set_option linter.unusedSimpArgs false

theorem T2.set2 {w : World} {g : Nat} {a b : Int} (h : T2 w g a b) (c d : Int) : T2 ((w.setCell ⟨g, 0, none⟩ (.int .i64 c)).setCell ⟨g, 1, none⟩ (.int .u64 d)) g c d := by
  obtain ⟨h0, h1, h2, f1, f2⟩ := h
  refine ⟨by simpa using h0, ?_, ?_, by simpa using f1, by simpa using f2⟩ <;> simp [cell_set, h1, h2]
theorem BB.set2 {w : World} {g : Nat} {s : Bool} {A : Option Addr} {n c : Nat} (h : BB w g s A n c) (s' : Bool) (A' : Option Addr) (n' c' : Nat) : BB ((w.setCell ⟨g, 0, none⟩ (.bool s')).setCell ⟨g, 1, none⟩ (.slice A' n' c')) g s' A' n' c' := by
  obtain ⟨h0, h1, h2, f1, f2⟩ := h
  refine ⟨by simpa using h0, ?_, ?_, by simpa using f1, by simpa using f2⟩ <;> simp [cell_set, h1, h2]
theorem BB.far {w : World} {g : Nat} {s : Bool} {A : Option Addr} {n c : Nat} (h : BB w g s A n c) {p : Addr} (hp : p.block ≠ g) (v : Value) : BB (w.setCell p v) g s A n c := by
  obtain ⟨h0, h1, h2, f1, f2⟩ := h
  have k : ∀ o, (w.setCell p v).cell? ⟨g, o, none⟩ = w.cell? ⟨g, o, none⟩ := fun o => World.cell?_setCell_other w _ _ _ (by rintro rfl; exact hp rfl)
  exact ⟨by simpa using h0, (k 0).trans h1, (k 1).trans h2, by simpa using f1, by simpa using f2⟩
theorem BigAt.abs {w : World} {s : Bool} {A : Option Addr} {n c : Nat} {z : Int} (h : BigAt w s A n c z) : BigAt w false A n c (z.natAbs : Int) := by
  obtain ⟨bits, h1, h2, h3, h4, h5, h6, h7⟩ := h.ex
  refine ⟨bits, h1, h2, h3, h4, h5, (fun h => nomatch h), ?_⟩
  rw [h7]
  cases s <;> simp
end Go.Proofs.Ytlbccpiadmcpjaa
end
section
namespace Go.Proofs.Ytlbccpiadmcpjaa
open Go.ChangeShapes Go.WideShapes Go.ChangeAt Go.RowKit
set_option linter.unusedVariables false
set_option linter.unusedSimpArgs false
theorem BB.new1 (w : World) (o : Obj) (s : Bool) (A : Option Addr) (n c : Nat) (t : TypeId) : BB ((w.alloc o).alloc (.cells #[.bool s, .slice A n c] t)) (w.heap.size + 1) s A n c := by
  have := BB.new (w.alloc o) s A n c t
  rwa [World.size_alloc] at this
end Go.Proofs.Ytlbccpiadmcpjaa
end
section
namespace Go.Proofs.Ytlbccpiadmcpjaa
open Go.ChangeShapes Go.WideShapes Go.ChangeAt Go.RowKit
set_option linter.unusedVariables false
set_option linter.unusedSimpArgs false

structure BX (B : Nat) (w : World) (g : Nat) (s : Bool) (A : Option Addr) (n c : Nat) (z : Int) : Prop where
  bb : BB w g s A n c
  at_ : BigAt w s A n c z
  fr : Fr B A n
  hg : g < B
section
variable {B : Nat} {w w' : World} {g : Nat} {s : Bool} {A : Option Addr} {n c : Nat} {z : Int}
theorem BX.below (h : BX B w g s A n c z) (hb : Below w.heap.size w w') : BX B w' g s A n c z := ⟨h.bb.below hb, h.at_.below hb, h.fr, h.hg⟩
theorem BX.alloc (h : BX B w g s A n c z) (o : Obj) : BX B (w.alloc o) g s A n c z := h.below ((Below.refl _ _).alloc (Nat.le_refl _) o)
theorem BX.drew (h : BX B w g s A n c z) : BX B w.drew g s A n c z := h.below ⟨rfl, rfl, rfl, Nat.le_refl _, fun _ _ => rfl⟩
theorem BX.set (h : BX B w g s A n c z) {p : Addr} (hp : p.block < B) (hne : p.block ≠ g) (v : Value) : BX B (w.setCell p v) g s A n c z :=
  ⟨h.bb.far hne v, h.at_.far (fun b o hA hn => by have := h.fr b o hA hn; omega) v, h.fr, h.hg⟩
theorem BX.put (h : BX B w g s A n c z) {s' : Bool} {A' : Option Addr} {n' c' : Nat} {z' : Int} (hz : BigAt w s' A' n' c' z') (hf : Fr B A' n') :
    BX B ((w.setCell ⟨g, 0, none⟩ (.bool s')).setCell ⟨g, 1, none⟩ (.slice A' n' c')) g s' A' n' c' z' := by
  have hg := h.hg
  refine ⟨h.bb.set2 s' A' n' c', ?_, hf, hg⟩
  refine BigAt.far (BigAt.far hz ?_ _) ?_ _
  · intro b o hA hn
    have := hf b o hA hn
    show b ≠ g
    omega
  · intro b o hA hn
    have := hf b o hA hn
    show b ≠ g
    omega
theorem BX.pos (h : BX B w g s A n c z) : BX B (w.setCell ⟨g, 0, none⟩ (.bool false)) g false A n c (z.natAbs : Int) := by
  have hg := h.hg
  refine ⟨?_, ?_, h.fr, hg⟩
  · obtain ⟨h0, h1, h2, f1, f2⟩ := h.bb
    refine ⟨by simpa using h0, ?_, ?_, by simpa using f1, by simpa using f2⟩ <;> simp [cell_set, h1, h2]
  · refine BigAt.far h.at_.abs ?_ _
    intro b o hA hn
    have := h.fr b o hA hn
    show b ≠ g
    omega
theorem BX.new (hB : w.heap.size < B) (t : TypeId) : BX B (w.alloc (.cells #[.bool false, .slice none 0 0] t)) w.heap.size false none 0 0 0 :=
  ⟨BB.new w false none 0 0 t, BigAt.zero _, (fun b o h => by cases h), hB⟩
end
end Go.Proofs.Ytlbccpiadmcpjaa
end
section
namespace Go.Proofs.Ytlbccpiadmcpjaa
open Go.ChangeShapes Go.WideShapes Go.ChangeAt Go.RowKit
set_option linter.unusedVariables false
set_option linter.unusedSimpArgs false

def All64 (l : List Int) : Prop := ∀ x ∈ l, In64 x
theorem sum_bound (l : List Int) (h : All64 l) : -(l.length : Int) * 9223372036854775808 ≤ l.sum ∧ l.sum ≤ (l.length : Int) * 9223372036854775808 := by
  induction l with
  | nil => simp
  | cons a m ih =>
    have h1 := ih (fun x hx => h x (by simp [hx]))
    have h2 := h a (by simp)
    unfold In64 at h2
    simp only [List.length_cons, List.sum_cons]
    omega
theorem sum_in128 (l : List Int) (h : All64 l) (hl : l.length ≤ 1000000) : In128 l.sum := by
  have := sum_bound l h
  unfold In128
  omega
set_option maxHeartbeats 8000000 in
theorem fsum_any (A : Option Addr) (cap : Nat) (l : List Int) (w : World) (hl : l.length ≤ 1000000) (hx : All64 l) (hs : Sl w A (ints .i64 l)) :
    Calls Try.prog 36 #[.slice A l.length cap] w fun e w' => e = .returned (.tuple #[.int .i64 (fV l.sum), .int .i64 (fE l.sum)]) ∧ Below w.heap.size w w' := by
  obtain ⟨z1, z2, z3⟩ := zero_parts
  go_enter Try.func36, Try.ntmps36
  go_wp2
  go_loopw [11] (fun i wr => ∃ k : Nat, k ≤ l.length ∧ i = .int .i64 k ∧ T2 wr w.heap.size (hiN (l.take k).sum) (loN (l.take k).sum) ∧ Below w.heap.size w wr) (fun i _ => l.length - (intOf i).toNat)
  case atStart =>
    refine ⟨0, by omega, rfl, ?_, (Below.refl _ _).alloc (Nat.le_refl _) _⟩
    simp only [List.take_zero, List.sum_nil, z1, z2]
    exact T2.new w 0 0 _
  case round =>
    obtain ⟨k, hk, rfl, ht, hB⟩ := hrel
    by_cases hlt : k < l.length
    · obtain ⟨b, o, rfl, hzw⟩ := hs.int hlt
      have hbw : b < w.heap.size := World.block_lt_of_cell? _ _ hzw
      have hz := (hB.cell (p := ⟨b, o + k, none⟩) hbw).trans hzw
      have hbr : b < wr.heap.size := Nat.lt_of_lt_of_le hbw hB.size
      have hsum : (l.take (k + 1)).sum = (l.take k).sum + l[k] := by rw [take_snoc l k hlt, List.sum_append]; simp
      have h1 : In128 (l.take k).sum := sum_in128 _ (fun x h => hx x (List.mem_of_mem_take h)) (by simp; omega)
      have h2 : In128 (l.take (k + 1)).sum := sum_in128 _ (fun x h => hx x (List.mem_of_mem_take h)) (by simp; omega)
      have hin := hx _ (List.getElem_mem hlt)
      rw [hsum] at h2
      have HS := Lib.hid hsum
      clear hsum
      generalize l[k] = x at *
      generalize (l.take k).sum = y at *
      have HE := Lib.hid (wideE_yes h2)
      obtain ⟨a0, a1, a2, f1, f2⟩ := id ht
      have hcs := @cell_set
      have HTW := Lib.hid ht
      go_upto_region 5 with fail
      go_cut [7, 8] (fun s7 s8 wx => ∃ g : Nat, s7 = .pointer (some ⟨g, 0, none⟩) ∧ s8 = .int .i64 0 ∧ T2 wx g (hiN (y + x)) (loN (y + x)) ∧ T2 wx w.heap.size (hiN y) (loN y) ∧ g ≠ w.heap.size ∧ Below w.heap.size w wx)
      case first =>
        go_region_with (first
          | (go_at_call 59; refine (wof_any x hin _).mono ?_; rintro e w1 ⟨rfl, hb1⟩; have hT1 : T2 w1 w.heap.size (hiN y) (loN y) := (by first | exact ht.drew.below hb1 | exact (ht.drew.alloc _).below hb1); have hB1 : Below w.heap.size w w1 := (by first | exact since_step hB.drew hb1 | exact since_step (since_alloc hB.drew _) hb1); (first | have G1 : T2 w1 wr.heap.size 0 0 := (T2.new wr.drew 0 0 98).below hb1 | skip); have hz1 : wr.heap.size ≤ w1.heap.size := (by have := hb1.size; simp at this; omega); obtain ⟨b0, b1, b2, b3, b4⟩ := id hT1; clear hb1)
          | (go_at_call 58; refine (wadd_any _ 2 [y, x] _ (by simp) (by intro z hz; simp at hz; rcases hz with rfl | rfl; exact h1; exact (of_in _ hin).2.2) (by first | exact Sl.new_ _ _ _ | exact (Sl.new_ _ _ _).alloc _ | exact Sl.new1 _ _ _ _)).mono ?_; rintro e w2 ⟨rfl, hb2⟩; have hT2 : T2 w2 w.heap.size (hiN y) (loN y) := (by first | exact (hT1.alloc _).below hb2 | exact ((hT1.alloc _).alloc _).below hb2); have hB2 : Below w.heap.size w w2 := (by first | exact since_step (since_alloc hB1 _) hb2 | exact since_step (since_alloc (since_alloc hB1 _) _) hb2); (first | have G2 := (G1.alloc _).below hb2 | have G2 := ((T2.new w1 0 0 98).alloc _).below hb2 | (have G2 := (T2.new (w1.alloc (.cells #[.int .i64 (hiN y), .int .u64 (loN y), .int .i64 (hiN x), .int .u64 (loN x)] 98)) 0 0 98).below hb2; rw [World.size_alloc] at G2) | skip); (first | obtain ⟨g0, g1, g2, g3, g4⟩ := _root_.id G2 | skip); rw [show [y, x].sum = y + x from by simp, HE.out]; have hz2 : w1.heap.size < w2.heap.size := (by have := hb2.size; simp at this; omega); clear hb2))
        all_goals
          go_wp2_with fail
          go_meet
          case rel =>
            first
              | exact ⟨_, rfl, rfl, G2.set2 _ _, (hT2.far (by simp; omega) _).far (by simp; omega) _, by simp; omega, by
                  refine Below.setCell (Below.setCell hB2 ?_ _) ?_ _ <;> (simp; omega)⟩
              | exact ⟨_, rfl, rfl, T2.new _ _ _ _, hT2.alloc _, by simp; omega, since_alloc hB2 _⟩
      case rest =>
        obtain ⟨g, rfl, rfl, hG, hT, hne, hBx⟩ := hcut
        obtain ⟨g0, g1, g2, g3, g4⟩ := id hG
        obtain ⟨t0, t1, t2, t3, t4⟩ := id hT
        clear hz ht a0 a1 a2 f1 f2
        go_wp2
        go_roundw
        case rel =>
          refine ⟨k + 1, by omega, by go_num, ?_, ?_⟩
          · rw [HS.out]
            exact hT.set2 _ _
          · refine Below.setCell (Below.setCell hBx ?_ _) ?_ _ <;> simp
        case measure => simp [intOf]; omega
    · obtain rfl : k = l.length := by omega
      rw [List.take_length] at ht
      have h128 := sum_in128 l hx hl
      obtain ⟨a0, a1, a2, f1, f2⟩ := id ht
      go_wp2_with fail
      refine (int_any l.sum h128 _).mono ?_
      rintro e w1 ⟨rfl, hb1⟩
      have hB1 := since_step hB hb1
      go_wp2_with fail
      go_ret2
      exact ⟨rfl, hB1⟩
end Go.Proofs.Ytlbccpiadmcpjaa
end
