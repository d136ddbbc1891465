import Derived.Test.YtmjndpkfhdoljaaGreatCm37
set_option maxHeartbeats 16000000
set_option maxRecDepth 100000
set_option linter.unusedVariables false
set_option linter.unusedSimpArgs false
section
namespace Go.Proofs.YtmjndpkfhdoljaaGreat.Hq
open Go.ChangeShapes Go.WideShapes Go.ChangeAt Go.RowKit

def AtOr (B : Nat) (A : Option Addr) : Prop := ∀ b o, A = some ⟨b, o, none⟩ → B ≤ b
theorem AtOr.own {w : World} {B e s n c : Nat} {A : Option Addr} {xs : List Value} (h : w.ownsRow B e s (.slice A n c) n xs) : AtOr B A := by
  intro b o hA
  rcases h.2 with ⟨hv, _⟩ | ⟨g, cap, cur, hv, hg, _⟩
  · injection hv with e1 e2 e3; rw [e1] at hA; cases hA
  · injection hv with e1 e2 e3
    rw [e1] at hA
    injection hA with hA
    injection hA with hA
    omega
theorem AtOr.nil (B : Nat) : AtOr B none := fun b o h => by cases h
theorem AtOr.mono {B C : Nat} {A : Option Addr} (h : AtOr C A) (hB : B ≤ C) : AtOr B A := fun b o e => Nat.le_trans hB (h b o e)
theorem AtOr.sl {w : World} {B : Nat} {A : Option Addr} {xs : List Value} (h : AtOr B A) (hs : Sl w A xs) {p : Addr} (hp : p.block < B) (v : Value) : Sl (w.setCell p v) A xs :=
  hs.far (fun b o e => by have := h b o e; omega) v
def FarH (l0 : List Hd) (P : Option Addr → Prop) (l : List Hd) : Prop := ∀ g ∈ l, g ∈ l0 ∨ P g.lt
theorem FarH.nil (l0 : List Hd) (P : Option Addr → Prop) : FarH l0 P [] := fun g h => by cases h
theorem FarH.pieces {l : List Hd} {P : Option Addr → Prop} {M : List Hd} (hM : ∀ g ∈ M, P g.lt) (k j : Nat) : FarH l P (l.take k ++ M ++ l.drop j) := by
  intro g hg
  rcases List.mem_append.1 hg with hg | hg
  · rcases List.mem_append.1 hg with hg | hg
    · exact .inl (List.mem_of_mem_take hg)
    · exact .inr (hM g hg)
  · exact .inl (List.mem_of_mem_drop hg)
theorem FarH.pieces0 {l : List Hd} {P : Option Addr → Prop} {M : List Hd} (hM : ∀ g ∈ M, P g.lt) (k : Nat) : FarH l P (l.take k ++ M ++ []) := by
  rw [List.append_nil]
  intro g hg
  rcases List.mem_append.1 hg with hg | hg
  · exact .inl (List.mem_of_mem_take hg)
  · exact .inr (hM g hg)
theorem FarH.imp {l0 : List Hd} {P Q : Option Addr → Prop} {l : List Hd} (h : FarH l0 P l) (hPQ : ∀ A, P A → Q A) : FarH l0 Q l := fun g hg => (h g hg).imp id (hPQ _)
theorem HdOTab.far {B : Nat} {w : World} {l : List Hd} {cs : List Hc} (h : HdOTab B w l cs) : ∀ g ∈ l, AtOr B g.lt := by
  intro g hg
  obtain ⟨i, hi, rfl⟩ := List.getElem_of_mem hg
  exact AtOr.own (h.2 i hi (h.1 ▸ hi)).own
def HRowN (l0 : List Hd) (P : Option Addr → Prop) (B : Nat) (w' : World) (e : Ending) (R : List Hc) : Prop :=
  ∃ (l : List Hd) (A' : Option Addr) (c' : Nat), e = .returned (.slice A' l.length c') ∧ Sl w' A' (rc Hd.cells l) ∧ HdTab w' l R ∧ CapH A' l.length c' ∧ AtOr B A' ∧ FarH l0 P l
def HResN (l0 : List Hd) (P : Option Addr → Prop) (B : Nat) (w' : World) (e : Ending) (R : Int × List Hc) : Prop :=
  ∃ (l : List Hd) (A' : Option Addr) (c' : Nat), e = .returned (.tuple #[.slice A' l.length c', .int .i64 R.1]) ∧ Sl w' A' (rc Hd.cells l) ∧ HdTab w' l R.2 ∧ CapH A' l.length c' ∧ AtOr B A' ∧ FarH l0 P l
theorem HRowN.row {l0 : List Hd} {P : Option Addr → Prop} {B : Nat} {w' : World} {e : Ending} {R : List Hc} (h : HRowN l0 P B w' e R) : HRow w' e R := by
  obtain ⟨l, A, c, h1, h2, h3, h4, _⟩ := h
  exact ⟨l, A, c, h1, h2, h3, h4⟩
theorem HResN.nil (l0 : List Hd) (P : Option Addr → Prop) (B : Nat) (w' : World) (n : Int) : HResN l0 P B w' (.returned (.tuple #[.slice none 0 0, .int .i64 n])) (n, []) := ⟨[], none, 0, rfl, Sl.nil, HdTab.nil _, .inl ⟨rfl, rfl, rfl⟩, AtOr.nil _, FarH.nil _ _⟩
end Go.Proofs.YtmjndpkfhdoljaaGreat.Hq
end
