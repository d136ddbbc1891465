/-
  The walks of the document's numbers without bounds, first part: trim, Nat.
-/
import Derived.Test.YtjhdccnkfnaapaaBigM
import Derived.Deep.QuietTactic
import Derived.BigQuiet
import Derived.IntWalk
namespace Go.Proofs.Ytjhdccnkfnaapaa
open Go.ChangeShapes Go.WideShapes Go.ChangeAt Go.RowKit
set_option linter.unusedVariables false
set_option linter.unusedSimpArgs false


/-- a result's block: a sign, bits -/
def RB (w : World) (g : Nat) : Prop := g < w.heap.size ∧ w.cell? ⟨g, 0, none⟩ = some (.bool false) ∧ w.cell? ⟨g, 1, none⟩ = some (.slice none 0 0) ∧ ∀ i, w.frozen? ⟨g, i, none⟩ = false
theorem RB.new (w : World) (t : TypeId) : RB (w.alloc (.cells #[.bool false, .slice none 0 0] t)) w.heap.size := ⟨by simp, by simp, by simp, fun i => by simp⟩
theorem RB.far {w w' : World} {B g : Nat} (h : RB w g) (hb : Below B w w') (hg : g < B) : RB w' g :=
  ⟨Nat.lt_of_lt_of_le h.1 hb.size, (hb.cell (p := ⟨g, 0, none⟩) hg).trans h.2.1, (hb.cell (p := ⟨g, 1, none⟩) hg).trans h.2.2.1, fun i => (hb.frozen (p := ⟨g, i, none⟩) hg).trans (h.2.2.2 i)⟩
theorem RB.below {w w' : World} {g : Nat} (h : RB w g) (hb : Below w.heap.size w w') : RB w' g := h.far hb h.1
theorem RB.alloc {w : World} {g : Nat} (h : RB w g) (o : Obj) : RB (w.alloc o) g := h.below ((Below.refl _ _).alloc (Nat.le_refl _) o)


/-- a row's memory lies no lower -/
def Fr (B : Nat) (A : Option Addr) (n : Nat) : Prop := ∀ b o, A = some ⟨b, o, none⟩ → 0 < n → B ≤ b
theorem Fr.own {w : World} {base : Nat} {e : TypeId} {size n c : Nat} {A : Option Addr} {xs : List Value} (h : w.ownsRow base e size (.slice A n c) n xs) : Fr base A n := by
  intro b o hA hn
  obtain ⟨g, e1, e2, _⟩ := own_at h hn
  rw [hA] at e1
  injection e1 with e1
  injection e1 with e1
  omega
theorem Fr.le {B B' : Nat} {A : Option Addr} {n m : Nat} (h : Fr B A n) (hB : B' ≤ B) (hm : m ≤ n) : Fr B' A m := fun b o hA hn => by
  have := h b o hA (by omega)
  omega
theorem BigAt.far {w : World} {neg : Bool} {A : Option Addr} {n c : Nat} {z : Int} (h : BigAt w neg A n c z) {p : Addr} (hp : ∀ b o, A = some ⟨b, o, none⟩ → 0 < n → b ≠ p.block) (v : Value) : BigAt (w.setCell p v) neg A n c z := by
  obtain ⟨bits, h1, h2, h3, h4, h5, h6, h7⟩ := h.ex
  refine ⟨bits, h1, h2, h3, ?_, h5, h6, h7⟩
  rcases Nat.eq_zero_or_pos n with h0 | h0
  · rw [h0] at h1
    rw [List.eq_nil_of_length_eq_zero h1]
    exact Sl.nil
  · exact h4.far (fun b o hA => hp b o hA h0) v
theorem u8_snoc (l : List Nat) (n : Nat) (e : Int) (h : e = n) : by8 l ++ [.int .u8 e] = by8 (l ++ [n]) := by rw [by8_append, h]; rfl

end Go.Proofs.Ytjhdccnkfnaapaa
