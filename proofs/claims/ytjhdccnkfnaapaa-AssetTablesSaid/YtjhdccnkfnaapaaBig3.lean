/-
  The walks of the document's numbers without bounds, third part: Neg, Add, Sub, Cmp.
-/
import Derived.Test.YtjhdccnkfnaapaaBig2
import Derived.Deep.RegionWith
import Derived.BigRegion
namespace Go.Proofs.Ytjhdccnkfnaapaa
open Go.ChangeShapes Go.WideShapes Go.ChangeAt Go.RowKit
set_option linter.unusedVariables false
set_option linter.unusedSimpArgs false

/-- a block of a sign and a row of bits -/
def BB (w : World) (g : Nat) (s : Bool) (A : Option Addr) (n c : Nat) : Prop := g < w.heap.size ∧ w.cell? ⟨g, 0, none⟩ = some (.bool s) ∧ w.cell? ⟨g, 1, none⟩ = some (.slice A n c) ∧ w.frozen? ⟨g, 0, none⟩ = false ∧ w.frozen? ⟨g, 1, none⟩ = false
section
variable {w w' : World} {g : Nat} {s : Bool} {A : Option Addr} {n c : Nat}
theorem BB.new (w : World) (s : Bool) (A : Option Addr) (n c : Nat) (t : TypeId) : BB (w.alloc (.cells #[.bool s, .slice A n c] t)) w.heap.size s A n c := by
  refine ⟨by simp, ?_, ?_, ?_, ?_⟩ <;> simp
theorem BB.below (h : BB w g s A n c) (hb : Below w.heap.size w w') : BB w' g s A n c := by
  obtain ⟨h0, h1, h2, f1, f2⟩ := h
  exact ⟨Nat.lt_of_lt_of_le h0 hb.size, (hb.cell (p := ⟨g, 0, none⟩) h0).trans h1, (hb.cell (p := ⟨g, 1, none⟩) h0).trans h2, (hb.frozen (p := ⟨g, 0, none⟩) h0).trans f1, (hb.frozen (p := ⟨g, 1, none⟩) h0).trans f2⟩
theorem BB.alloc (h : BB w g s A n c) (o : Obj) : BB (w.alloc o) g s A n c := h.below ((Below.refl _ _).alloc (Nat.le_refl _) o)
theorem BB.drew (h : BB w g s A n c) : BB w.drew g s A n c := h
end
theorem BigAt.lt {w : World} {neg : Bool} {A : Option Addr} {n c : Nat} {z : Int} (h : BigAt w neg A n c z) : ∀ b o, A = some ⟨b, o, none⟩ → 0 < n → b < w.heap.size := by
  intro b o hA hn
  obtain ⟨bits, h1, h2, h3, h4, _⟩ := h.ex
  obtain ⟨b', o', e, hc⟩ := h4.byte (j := 0) (by omega)
  rw [hA] at e
  injection e with e
  injection e with e1 e2
  subst e1
  exact World.block_lt_of_cell? _ _ hc

theorem add_same {s : Bool} {x y : Int} {p q v : Nat} (hx : x = if s = true then -(p : Int) else (p : Int)) (hy : y = if s = true then -(q : Int) else (q : Int)) (hv : v = p + q) : x + y = if s = true then -(v : Int) else (v : Int) := by
  subst hx; subst hy; subst hv; cases s <;> simp <;> omega
theorem add_lt {s t : Bool} {x y : Int} {p q v : Nat} (h : (s == t) = false) (hx : x = if s = true then -(p : Int) else (p : Int)) (hy : y = if t = true then -(q : Int) else (q : Int)) (hl : p < q) (hv : v = q - p) : x + y = if t = true then -(v : Int) else (v : Int) := by
  subst hx; subst hy; subst hv
  cases s <;> cases t <;> simp at h ⊢ <;> omega
theorem add_ge {s t : Bool} {x y : Int} {p q v : Nat} (h : (s == t) = false) (hx : x = if s = true then -(p : Int) else (p : Int)) (hy : y = if t = true then -(q : Int) else (q : Int)) (hl : ¬ p < q) (hv : v = p - q) : x + y = if s = true then -(v : Int) else (v : Int) := by
  subst hx; subst hy; subst hv
  cases s <;> cases t <;> simp at h ⊢ <;> omega


end Go.Proofs.Ytjhdccnkfnaapaa
