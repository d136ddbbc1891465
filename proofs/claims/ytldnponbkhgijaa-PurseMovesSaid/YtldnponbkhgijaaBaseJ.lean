import Derived.Test.YtldnponbkhgijaaRows
import Derived.WalkKit
import Derived.ProofKit
import Derived.OpenShut
import Derived.ShutString
import Derived.ChangeOld
import Derived.Below
import Derived.Outline
import Derived.Deep.QuietTactic
import Derived.BigQuiet
import Derived.Lib.Hide
import Derived.Laws.AppendOwnNone
import Derived.Laws.CopyOwn
import Derived.WalkSpells
import Derived.WalkLawsBesides
import Derived.Deep.DeepFit
import Derived.Maps.AppendAt
import Derived.Deep.Slices
import Derived.Lib.AppendZerosOnto
import Derived.Lib.Overlaps
import Derived.Laws.NewBlocks
section
/-
  Words for memory that all proofs of this seat use: a slice that reads as a list of cells; bytes; what stays.
-/
namespace Go.Proofs.Ytldnponbkhgijaa
open Go.ChangeShapes Go.WideShapes Go.ChangeAt Go.RowKit
set_option linter.unusedVariables false

theorem addr_add (b o i : Nat) : (⟨b, o, none⟩ : Addr).add i = ⟨b, o + i, none⟩ := by
  unfold Addr.add
  by_cases h : i = 0 <;> simp [h]

/-- the slice's address leads to the cells xs (of an empty one nothing is known) -/
def Sl (w : World) (A : Option Addr) (xs : List Value) : Prop :=
  xs ≠ [] → ∃ b o, A = some ⟨b, o, none⟩ ∧ ∀ j u, xs[j]? = some u → w.cell? ⟨b, o + j, none⟩ = some u

section
variable {w w' : World} {A : Option Addr} {xs : List Value}
theorem Sl.nil : Sl w A [] := fun h => absurd rfl h
theorem Sl.at_ (h : Sl w A xs) {j : Nat} (hj : j < xs.length) : ∃ b o, A = some ⟨b, o, none⟩ ∧ w.cell? ⟨b, o + j, none⟩ = some xs[j] := by
  obtain ⟨b, o, hA, hc⟩ := h (by intro e; subst e; simp at hj)
  exact ⟨b, o, hA, hc j _ (List.getElem?_eq_getElem hj)⟩
theorem Sl.keep (h : Sl w A xs) (hk : ∀ p : Addr, p.block < w.heap.size → w'.cell? p = w.cell? p) : Sl w' A xs := by
  intro hne
  obtain ⟨b, o, hA, hc⟩ := h hne
  refine ⟨b, o, hA, fun j u hu => ?_⟩
  have := hc j u hu
  rw [hk _ (World.block_lt_of_cell? w _ this)]
  exact this
theorem Sl.below (h : Sl w A xs) (hb : Below w.heap.size w w') : Sl w' A xs := h.keep fun _ hp => hb.cell hp
theorem Sl.alloc (h : Sl w A xs) (o : Obj) : Sl (w.alloc o) A xs := h.keep fun p hp => World.cell?_alloc_lt w o p hp
theorem Sl.drew (h : Sl w A xs) : Sl w.drew A xs := h
theorem Sl.drewN (h : Sl w A xs) (n : Nat) : Sl (w.drewN n) A xs := h
theorem Sl.take (h : Sl w A xs) (n : Nat) : Sl w A (xs.take n) := by
  intro hne
  obtain ⟨b, o, hA, hc⟩ := h (by rintro rfl; simp at hne)
  refine ⟨b, o, hA, fun j u hu => hc j u ?_⟩
  rw [List.getElem?_take] at hu
  split at hu
  · exact hu
  · cases hu
theorem Sl.row (h : Sl w A xs) {b o : Nat} (hA : A = some ⟨b, o, none⟩) : ∀ j u, xs[j]? = some u → w.cell? ((⟨b, o, none⟩ : Addr).add j) = some u := by
  intro j u hu
  rw [addr_add]
  by_cases hne : xs = []
  · subst hne; simp at hu
  · obtain ⟨b', o', hA', hc⟩ := h hne
    rw [hA] at hA'
    injection hA' with hA'
    injection hA' with h1 h2
    subst h1; subst h2
    exact hc j u hu
theorem Sl.of_own {base : Nat} {e : TypeId} {size n c : Nat} (h : w.ownsRow base e size (.slice A n c) n xs) : Sl w A xs := by
  intro hne
  rcases h.2 with ⟨_, hn⟩ | ⟨g, cap, cur, hv, _, hg, _, _, _, ht⟩
  · exact absurd (List.eq_nil_of_length_eq_zero (by rw [h.1, hn, Nat.zero_mul])) hne
  · have hA : A = some ⟨g, 0, none⟩ := by injection hv
    subst hA
    refine ⟨g, 0, rfl, fun j u hu => ?_⟩
    rw [Nat.zero_add, cell_of_row w g j cur e (0, 0) hg]
    rw [← ht, List.getElem?_take] at hu
    split at hu
    · simpa using hu
    · cases hu
theorem Sl.set_ {b o k : Nat} (h : Sl w (some ⟨b, o, none⟩) xs) (hk : k < xs.length) (v : Value) : Sl (w.setCell ⟨b, o + k, none⟩ v) (some ⟨b, o, none⟩) (xs.set k v) := by
  intro _
  obtain ⟨b', o', hA, hc⟩ := h (by intro e; rw [e] at hk; simp at hk)
  injection hA with hA
  injection hA with h1 h2
  subst h1; subst h2
  refine ⟨b, o, rfl, fun j u hu => ?_⟩
  by_cases hj : k = j
  · subst hj
    rw [List.getElem?_set_self hk] at hu
    injection hu with hu
    rw [← hu]
    exact World.cell?_setCell_same w _ _ (hc k _ (List.getElem?_eq_getElem hk))
  · rw [List.getElem?_set_ne hj] at hu
    rw [World.cell?_setCell_other w _ _ _ (by intro e; injection e with _ e2; omega)]
    exact hc j u hu
theorem Sl.set0 {b k : Nat} (h : Sl w (some ⟨b, 0, none⟩) xs) (hk : k < xs.length) (v : Value) : Sl (w.setCell ⟨b, k, none⟩ v) (some ⟨b, 0, none⟩) (xs.set k v) := by
  have := h.set_ hk v
  rwa [Nat.zero_add] at this
theorem by8_set (l : List Nat) (k n : Nat) : (l.map fun (m : Nat) => Value.int .u8 (m : Int)).set k (.int .u8 (n : Int)) = (l.set k n).map fun (m : Nat) => Value.int .u8 (m : Int) := by
  rw [List.map_set]
theorem Sl.far {p : Addr} (h : Sl w A xs) (hp : ∀ b o, A = some ⟨b, o, none⟩ → b ≠ p.block) (v : Value) : Sl (w.setCell p v) A xs := by
  intro hne
  obtain ⟨b, o, hA, hc⟩ := h hne
  refine ⟨b, o, hA, fun j u hu => ?_⟩
  rw [World.cell?_setCell_other w _ _ _ (by intro e; exact hp b o hA (by rw [e]))]
  exact hc j u hu
theorem below_drewN {B : Nat} {a w : World} (h : Below B a w) (n : Nat) : Below B a (w.drewN n) := ⟨h.os, h.tape, h.output, h.size, h.block⟩
theorem Sl.of_size (h : Sl w A xs) (hb : Below w.heap.size w w') : Sl w' A xs := h.below hb
end

/-- bytes -/
def by8 (l : List Nat) : List Value := l.map fun (n : Nat) => Value.int .u8 (n : Int)
theorem by8_length (l : List Nat) : (by8 l).length = l.length := by simp [by8]
theorem by8_append (a b : List Nat) : by8 (a ++ b) = by8 a ++ by8 b := by simp [by8]
theorem by8_take (l : List Nat) (n : Nat) : by8 (l.take n) = (by8 l).take n := by simp [by8, List.map_take]
theorem by8_one (l : List Nat) : ∀ u ∈ by8 l, u.oneCell' = true := by
  intro u hu
  simp [by8] at hu
  obtain ⟨n, _, rfl⟩ := hu
  rfl
/-- each is a byte -/
def Oct (l : List Nat) : Prop := ∀ x ∈ l, x < 256
theorem Oct.take {l : List Nat} (h : Oct l) (n : Nat) : Oct (l.take n) := fun x hx => h x (List.mem_of_mem_take hx)
theorem Oct.app {a b : List Nat} (h : Oct a) (k : Oct b) : Oct (a ++ b) := fun x hx => by
  rcases List.mem_append.1 hx with h' | h'
  · exact h x h'
  · exact k x h'
theorem Oct.at_ {l : List Nat} (h : Oct l) {k : Nat} (hk : k < l.length) : l[k] < 256 := h _ (List.getElem_mem hk)
theorem Sl.byte {w : World} {A : Option Addr} {l : List Nat} (h : Sl w A (by8 l)) {j : Nat} (hj : j < l.length) :
    ∃ b o, A = some ⟨b, o, none⟩ ∧ w.cell? ⟨b, o + j, none⟩ = some (.int .u8 (l[j] : Int)) := by
  obtain ⟨b, o, hA, hc⟩ := h.at_ (j := j) (by rw [by8_length]; exact hj)
  exact ⟨b, o, hA, by simpa [by8] using hc⟩
theorem take_snoc {α : Type} (l : List α) (k : Nat) (h : k < l.length) : l.take (k + 1) = l.take k ++ [l[k]] := by
  rw [List.take_succ_eq_append_getElem h]

/-- a block known whole -/
def Bk (w : World) (g : Nat) (cs : Array Value) : Prop := g < w.heap.size ∧ ∀ o, w.cell? ⟨g, o, none⟩ = cs[o]?
section
variable {w w' : World} {g : Nat} {cs : Array Value}
theorem Bk.new (w : World) (cs : Array Value) (t : TypeId) : Bk (w.alloc (.cells cs t)) w.heap.size cs := ⟨by simp, fun o => World.cell?_alloc_new w cs t o⟩
theorem Bk.below (h : Bk w g cs) (hb : Below w.heap.size w w') : Bk w' g cs := ⟨Nat.lt_of_lt_of_le h.1 hb.size, fun o => (hb.cell (p := ⟨g, o, none⟩) h.1).trans (h.2 o)⟩
theorem Bk.alloc (h : Bk w g cs) (o : Obj) : Bk (w.alloc o) g cs := h.below ((Below.refl _ _).alloc (Nat.le_refl _) o)
theorem Bk.drew (h : Bk w g cs) : Bk w.drew g cs := h
theorem Bk.drewN (h : Bk w g cs) (n : Nat) : Bk (w.drewN n) g cs := h
end
theorem since_step {W0 W W' : World} (h : Below W0.heap.size W0 W) (k : Below W.heap.size W W') : Below W0.heap.size W0 W' := h.trans (k.mono h.size)
theorem since_alloc {W0 W : World} (h : Below W0.heap.size W0 W) (o : Obj) : Below W0.heap.size W0 (W.alloc o) := h.alloc h.size o

/-- a cell behind a store, wherever it lies -/
theorem cell_set (w : World) (a b : Addr) (v : Value) : (w.setCell a v).cell? b = if a = b then (w.cell? a).map (fun _ => v) else w.cell? b := by
  by_cases h : a = b
  · subst h
    rw [if_pos rfl]
    cases hc : w.cell? a with
    | some u => exact World.cell?_setCell_same w a v hc
    | none =>
      simp only [Option.map_none]
      unfold World.cell? World.setCell at *
      simp only [Array.getElem?_modify] at *
      cases hh : w.heap[a.block]? with
      | none => simp
      | some o =>
        rw [hh] at hc
        cases o with
        | cells c e f =>
          simp only at hc
          simp
          intro hs
          rcases Nat.lt_or_ge a.off c.size with h1 | h1
          · rw [hs, Array.getElem?_eq_getElem h1] at hc; simp at hc
          · split
            · exact h1
            · simpa using h1
        | _ => simp
  · rw [if_neg h]
    exact World.cell?_setCell_other w a b v h
/-- what a call leaves of the cells and marks that there were -/
theorem old_cells {W w1 : World} (hb : Below W.heap.size W w1) : (∀ b o, b < W.heap.size → w1.cell? ⟨b, o, none⟩ = W.cell? ⟨b, o, none⟩) ∧ (∀ b o, b < W.heap.size → w1.frozen? ⟨b, o, none⟩ = W.frozen? ⟨b, o, none⟩) :=
  ⟨fun b o h => hb.cell (p := ⟨b, o, none⟩) h, fun b o h => hb.frozen (p := ⟨b, o, none⟩) h⟩
theorem retI {k : IntKind} {a b : Int} (h : a = b) : Ending.returned (.int k a) = .returned (.int k b) := by rw [h]
theorem retB {a b : Bool} (h : a = b) : Ending.returned (.bool a) = .returned (.bool b) := by rw [h]
theorem retTB {v : Value} {a b : Bool} (h : a = b) : Ending.returned (.tuple #[v, .bool a]) = .returned (.tuple #[v, .bool b]) := by rw [h]
theorem natBeq (a b : Nat) : (((a : Nat) : Int) == ((b : Nat) : Int)) = decide (a = b) := by
  by_cases h : a = b
  · subst h; simp
  · rw [decide_eq_false h, beq_eq_false_iff_ne]; omega
theorem intE {k : IntKind} {a b : Int} (h : a = b) : Value.int k a = .int k b := by rw [h]
/-- what the frame of a law says of a slice of integers that came in -/
def IsRow (k : IntKind) (w : World) (a : Option Addr) (len cap : Nat) (zs : List Int) : Prop :=
  (a = none ∧ len = 0 ∧ cap = 0 ∧ zs = []) ∨
  ∃ x, a = some x ∧ len ≤ cap ∧ cap ≤ maxLen ∧ zs.length = cap ∧ (∀ i, i < zs.length → w.cell? (x.add i) = some (.int k (zs.getD i 0))) ∧ ∀ n ∈ zs, (Lit.int k n).wf = true

/-- cells of integers -/
def ints (k : IntKind) (l : List Int) : List Value := l.map fun n => Value.int k n
theorem ints_length (k : IntKind) (l : List Int) : (ints k l).length = l.length := by simp [ints]
theorem ints_one (k : IntKind) (l : List Int) : ∀ u ∈ ints k l, u.oneCell' = true := by
  intro u hu
  simp [ints] at hu
  obtain ⟨n, _, rfl⟩ := hu
  rfl
theorem Sl.int {w : World} {A : Option Addr} {k : IntKind} {l : List Int} (h : Sl w A (ints k l)) {j : Nat} (hj : j < l.length) :
    ∃ b o, A = some ⟨b, o, none⟩ ∧ w.cell? ⟨b, o + j, none⟩ = some (.int k l[j]) := by
  obtain ⟨b, o, hA, hc⟩ := h.at_ (j := j) (by rw [ints_length]; exact hj)
  exact ⟨b, o, hA, by simpa [ints] using hc⟩

theorem IsRow.ints {k : IntKind} {w : World} {a : Option Addr} {len cap : Nat} {zs : List Int} (h : IsRow k w a len cap zs) :
    ∃ l : List Int, l.length = len ∧ len ≤ cap ∧ cap ≤ maxLen ∧ Sl w a (ints k l) ∧ ∀ n ∈ l, (Lit.int k n).wf = true := by
  rcases h with ⟨rfl, rfl, rfl, rfl⟩ | ⟨x, rfl, hl, hm, hz, hcell, hwf⟩
  · exact ⟨[], rfl, Nat.le_refl _, by decide, Sl.nil, fun n hn => by cases hn⟩
  · refine ⟨zs.take len, by simp; omega, hl, hm, ?_, fun n hn => hwf n (List.mem_of_mem_take hn)⟩
    intro hne
    have h0 : 0 < len := by
      rcases Nat.eq_zero_or_pos len with h | h
      · subst h; simp [Go.Proofs.Ytldnponbkhgijaa.ints] at hne
      · exact h
    obtain ⟨b, o, spot⟩ := x
    have hc := hcell 0 (by omega)
    have hspot : spot = none := by simpa [Addr.add] using World.cell?_spot hc
    subst hspot
    refine ⟨b, o, rfl, fun j u hu => ?_⟩
    simp only [Go.Proofs.Ytldnponbkhgijaa.ints, List.getElem?_map, List.getElem?_take] at hu
    by_cases hj : j < len
    · rw [if_pos hj] at hu
      have hjz : j < zs.length := by omega
      have := hcell j hjz
      rw [addr_add] at this
      rw [this]
      rw [List.getElem?_eq_getElem hjz] at hu
      rw [List.getD_eq_getElem?_getD, List.getElem?_eq_getElem hjz]
      simpa using hu
    · rw [if_neg hj] at hu
      simp at hu

theorem IsRow.bytes {w : World} {a : Option Addr} {len cap : Nat} {zs : List Int} (h : IsRow .u8 w a len cap zs) :
    ∃ l : List Nat, l.length = len ∧ len ≤ cap ∧ cap ≤ maxLen ∧ Sl w a (by8 l) ∧ Oct l := by
  obtain ⟨l, hl, hc, hm, hs, hw⟩ := h.ints
  have hb : ∀ n ∈ l, 0 ≤ n ∧ n ≤ 255 := fun n hn => by simpa [Lit.wf, IntKind.min, IntKind.max, IntKind.signed, IntKind.bits] using hw n hn
  have e : by8 (l.map Int.toNat) = Go.Proofs.Ytldnponbkhgijaa.ints .u8 l := by
    simp only [by8, Go.Proofs.Ytldnponbkhgijaa.ints, List.map_map]
    apply List.map_congr_left
    intro n hn
    have := hb n hn
    show Value.int .u8 (n.toNat : Int) = _
    rw [Int.toNat_of_nonneg this.1]
  refine ⟨l.map Int.toNat, by simpa using hl, hc, hm, by rw [e]; exact hs, ?_⟩
  intro x hx
  simp at hx
  obtain ⟨n, hn, rfl⟩ := hx
  have := hb n hn
  omega

theorem bd_u8 {a : Int} (h : (Lit.int .u8 a).wf = true) : 0 ≤ a ∧ a < 256 := by
  have : 0 ≤ a ∧ a ≤ 255 := by simpa [Lit.wf, IntKind.min, IntKind.max, IntKind.signed, IntKind.bits] using h
  omega
theorem bd_u32 {a : Int} (h : (Lit.int .u32 a).wf = true) : 0 ≤ a ∧ a < 4294967296 := by
  have : 0 ≤ a ∧ a ≤ 4294967295 := by simpa [Lit.wf, IntKind.min, IntKind.max, IntKind.signed, IntKind.bits] using h
  omega
theorem bd_u64 {a : Int} (h : (Lit.int .u64 a).wf = true) : 0 ≤ a ∧ a < 18446744073709551616 := by
  have : 0 ≤ a ∧ a ≤ 18446744073709551615 := by simpa [Lit.wf, IntKind.min, IntKind.max, IntKind.signed, IntKind.bits] using h
  omega
theorem bd_i64 {a : Int} (h : (Lit.int .i64 a).wf = true) : -9223372036854775808 ≤ a ∧ a ≤ 9223372036854775807 := by
  simpa [Lit.wf, IntKind.min, IntKind.max, IntKind.signed, IntKind.bits] using h

/-! rows of the call's own -/
/-- what the program's table says of a slice type t of elements e: so many cells, so many bytes -/
structure Elem (P : Program) (t e : TypeId) (size bytes : Nat) : Prop where
  und : P.underlying t = some (.slice e)
  info : ∃ (i : TypeInfo) (z : Value), P.info? e = some i ∧ i.zero = some z ∧ i.size = size ∧ i.bytes = bytes ∧ z.cells.size = size
  pos : 0 < size

theorem Elem.mk' {P : Program} {t e : TypeId} {size bytes : Nat} {z : Value} (h1 : P.underlying t = some (.slice e)) (h2 : (P.info? e).map (fun i => (i.zero, i.size, i.bytes)) = some (some z, size, bytes))
    (h3 : z.cells.size = size) (h4 : 0 < size) : Elem P t e size bytes := by
  obtain ⟨i, a, b, c, d⟩ := info_parts h2
  exact ⟨h1, ⟨i, z, a, b, c, d, h3⟩, h4⟩

section
variable {P : Program} {w : World}
theorem own_nil (base : Nat) (e : TypeId) (size : Nat) : w.ownsRow base e size (.slice none 0 0) 0 [] := ⟨by simp, .inl ⟨rfl, rfl⟩⟩
theorem own_ge {base : Nat} {e : TypeId} {size n : Nat} {v : Value} {xs : List Value} (h : w.ownsRow base e size v n xs) : ∀ k, v.ownBlock = some k → base ≤ k := by
  intro k hk
  rcases h.2 with ⟨rfl, _⟩ | ⟨g, cap, cur, rfl, hg, _⟩
  · simp [Value.ownBlock] at hk
  · simp [Value.ownBlock] at hk
    omega
theorem below_of_grown {base : Nat} {w' : World} {row : Option Nat} (hg : w.grownBy w' row) (hB : base ≤ w.heap.size) (hr : ∀ k, row = some k → base ≤ k) : Below base w w' :=
  (Below.refl base w).grown hg hB hr
theorem own_form {base : Nat} {e : TypeId} {size n : Nat} {v : Value} {xs : List Value} (h : w.ownsRow base e size v n xs) : ∃ A c, v = .slice A n c := by
  rcases h.2 with ⟨rfl, rfl⟩ | ⟨g, cap, cur, rfl, _⟩
  · exact ⟨_, _, rfl⟩
  · exact ⟨_, _, rfl⟩

/-- a row of the call's own that is not empty: its block; not frozen -/
theorem own_at {base : Nat} {e : TypeId} {size n c : Nat} {A : Option Addr} {xs : List Value} (h : w.ownsRow base e size (.slice A n c) n xs) (hn : 0 < n) :
    ∃ g, A = some ⟨g, 0, none⟩ ∧ base ≤ g ∧ g < w.heap.size ∧ ∀ i, w.frozen? ⟨g, i, none⟩ = false := by
  rcases h.2 with ⟨_, h0⟩ | ⟨g, cap, cur, hv, hg, hh, _⟩
  · omega
  · injection hv with e1
    subst e1
    refine ⟨g, rfl, hg, ?_, fun i => by simp [World.frozen?, hh]⟩
    rcases Nat.lt_or_ge g w.heap.size with hlt | hge
    · exact hlt
    · rw [Array.getElem?_eq_none hge] at hh; cases hh

theorem Sl.newMark (w : World) (cs : List Value) (e : TypeId) (fr : Nat × Nat) : Sl (w.alloc (.cells cs.toArray e fr)) (some ⟨w.heap.size, 0, none⟩) cs := by
  intro _
  refine ⟨_, _, rfl, fun j u hu => ?_⟩
  rw [Nat.zero_add, World.cell?_alloc_mark]
  simpa using hu
theorem Sl.new_ (w : World) (cs : List Value) (e : TypeId) : Sl (w.alloc (.cells cs.toArray e)) (some ⟨w.heap.size, 0, none⟩) cs := Sl.newMark w cs e _

theorem Sl.new1 (w : World) (o : Obj) (cs : List Value) (e : TypeId) : Sl ((w.alloc o).alloc (.cells cs.toArray e)) (some ⟨w.heap.size + 1, 0, none⟩) cs := by
  have := Sl.new_ (w.alloc o) cs e
  rwa [World.size_alloc] at this

theorem run_app {t ty e : TypeId} {size bytes : Nat} (E : Elem P t e size bytes) {base n m c d : Nat} {A B : Option Addr} {xs news : List Value}
    (hown : w.ownsRow base e size (.slice A n c) n xs) (hl : news.length = m * size) (hr : Sl w B news) (h1 : ∀ u ∈ news, u.oneCell' = true)
    (h63 : n + m ≤ maxLen) (hb : (n + m) * bytes ≤ 140737488355328) (hbase : base ≤ w.heap.size) :
    ∃ A' c' w', (Builtin.append_ #[t, t] ty #[.slice A n c, .slice B m d]).run P w = .ok (.slice A' (n + m) c') w' ∧ w'.ownsRow base e size (.slice A' (n + m) c') (n + m) (xs ++ news) ∧
      w.grownBy w' (Value.slice A n c).ownBlock ∧ Below base w w' := by
  obtain ⟨i, z, hi, hz, hsize, hby, hzs⟩ := E.info
  by_cases hm : m = 0
  · subst hm
    have hn : news = [] := List.eq_nil_of_length_eq_zero (by simpa using hl)
    subst hn
    rcases hB : B with _ | ad
    · refine ⟨A, c, w, ?_, by simpa using hown, World.grownBy.refl w _, Below.refl _ _⟩
      rcases hown.2 with ⟨hv, h0⟩ | ⟨g, cap, cur, hv, _, _, hnc, _⟩
      · rw [hv]
        subst h0
        injection hv with a1 a2 a3
        subst a1; subst a3
        simp [Builtin.append_, run_underlying E.und, sizeOf, typeInfo, hi, Builtin.lenOf, Builtin.firstCells]
      · injection hv with a1 a2 a3
        subst a1; subst a3
        simp [Builtin.append_, run_underlying E.und, sizeOf, typeInfo, hi, Builtin.lenOf, Builtin.firstCells, hnc, storeCells]
    · obtain ⟨v', w', hrun, h2, h3, _, h5⟩ := run_append_own_at (P := P) w base t ty e i z size bytes E.und hi hz hsize hby hzs E.pos _ n xs hown ad 0 d [] (by simp) (by simp) (by simp) h63 hb hbase
      obtain ⟨A', c', rfl⟩ := own_form h2
      exact ⟨A', c', w', hrun, h2, h3, below_of_grown h3 hbase (own_ge hown)⟩
  · have hne : news ≠ [] := by
      intro h0
      rw [h0, List.length_nil] at hl
      rcases Nat.mul_eq_zero.1 hl.symm with h | h
      · exact hm h
      · have := E.pos; omega
    obtain ⟨b, o, rfl, hc⟩ := hr hne
    obtain ⟨v', w', hrun, h2, h3, _, h5⟩ := run_append_own_at (P := P) w base t ty e i z size bytes E.und hi hz hsize hby hzs E.pos _ n xs hown ⟨b, o, none⟩ m d news hl
      (fun j u hu => by rw [addr_add]; exact hc j u hu) h1 h63 hb hbase
    obtain ⟨A', c', rfl⟩ := own_form h2
    exact ⟨A', c', w', hrun, h2, h3, below_of_grown h3 hbase (own_ge hown)⟩

theorem wp_app {o : Oper} {a : Act} {K : Act → World → Prop} {Q : Exit → Act → World → Prop} (s x : Operand) {t e : TypeId} {size bytes : Nat}
    (ho : o.op = .call { callee := .builtin .append, args := #[s, x], argTypes := #[t, t] }) (E : Elem P t e size bytes) {base n m c d : Nat} {A B : Option Addr} {xs news : List Value}
    (hs : a.eval s = .slice A n c) (hx : a.eval x = .slice B m d)
    (hown : w.ownsRow base e size (.slice A n c) n xs) (hl : news.length = m * size) (hr : Sl w B news) (h1 : ∀ u ∈ news, u.oneCell' = true)
    (h63 : n + m ≤ maxLen) (hb : (n + m) * bytes ≤ 140737488355328) (hbase : base ≤ w.heap.size)
    (h : ∀ A' c' w', w'.ownsRow base e size (.slice A' (n + m) c') (n + m) (xs ++ news) → w.grownBy w' (Value.slice A n c).ownBlock → Below base w w' → K (a.put o.dst (.slice A' (n + m) c')) w') : o.wp P a w K Q := by
  obtain ⟨A', c', w', hrun, h2, h3, h4⟩ := run_app (P := P) (w := w) (ty := o.type) E (d := d) hown hl hr h1 h63 hb hbase
  unfold Oper.wp execOp
  simp only [ho, resolve, invoke, builtin, Sem.run_bind, Sem.run_pure, Result.andThen_ok, List.map_toArray, List.map_cons, List.map_nil, hs, hx, hrun]
  exact h A' c' w' h2 h3 h4

theorem wpList_app {ops : Array Oper} {rest : List Oper} {o : Oper} {a : Act} {Q : Exit → Act → World → Prop} (hgd : o.guard = none) (s x : Operand) {t e : TypeId} {size bytes : Nat}
    (ho : o.op = .call { callee := .builtin .append, args := #[s, x], argTypes := #[t, t] }) (E : Elem P t e size bytes) {base n m c d : Nat} {A B : Option Addr} {xs news : List Value}
    (hs : a.eval s = .slice A n c) (hx : a.eval x = .slice B m d)
    (hown : w.ownsRow base e size (.slice A n c) n xs) (hl : news.length = m * size) (hr : Sl w B news) (h1 : ∀ u ∈ news, u.oneCell' = true)
    (h63 : n + m ≤ maxLen) (hb : (n + m) * bytes ≤ 140737488355328) (hbase : base ≤ w.heap.size)
    (h : ∀ A' c' w', w'.ownsRow base e size (.slice A' (n + m) c') (n + m) (xs ++ news) → w.grownBy w' (Value.slice A n c).ownBlock → Below base w w' → wpList P ops Q rest (a.put o.dst (.slice A' (n + m) c')) w') :
    wpList P ops Q (o :: rest) a w :=
  wpList_plain hgd fun _ hK => wp_app s x ho E hs hx hown hl hr h1 h63 hb hbase fun A' c' w' h2 h3 h4 => hK _ _ (h A' c' w' h2 h3 h4)
end

section
variable {P : Program} {w : World}
/-- make with a length of 0 and room for n -/
theorem wpList_mk {ops : Array Oper} {rest : List Oper} {o : Oper} {a : Act} {Q : Exit → Act → World → Prop} (hg : o.guard = none) (l c : Operand) {t e : TypeId} {size bytes : Nat} (hop : o.op = Op.makeSlice t l c)
    (E : Elem P t e size bytes) (n : Nat) {kl kc : IntKind} {C : Int} (hl : a.eval l = .int kl 0) (hc : a.eval c = .int kc C) (hC : C = (n : Int)) (b2 : bytes * n ≤ 281474976710656) (b3 : n ≤ maxLen)
    {base : Nat} (b4 : base ≤ w.heap.size)
    (h : ∀ w', w'.ownsRow base e size (.slice (some ⟨w.heap.size, 0, none⟩) 0 n) 0 [] → Below w.heap.size w w' → wpList P ops Q rest (a.put o.dst (.slice (some ⟨w.heap.size, 0, none⟩) 0 n)) w') :
    wpList P ops Q (o :: rest) a w := by
  obtain ⟨i, z, hi, hz, hsize, hby, hzs⟩ := E.info
  exact wpList_make_own w hg l c t hop base e i z size E.und hi hz hsize kl kc C n hl hc hC (by rw [hby]; exact b2) b3 b4 fun w' h1 h2 => h w' h1 (below_of_grown h2 (Nat.le_refl _) (by simp))
/-- make with a length -/
theorem wpList_mkFull {ops : Array Oper} {rest : List Oper} {o : Oper} {a : Act} {Q : Exit → Act → World → Prop} (hg : o.guard = none) (l c : Operand) {t e : TypeId} {size bytes : Nat} (hop : o.op = Op.makeSlice t l c)
    (E : Elem P t e size bytes) (n : Nat) {kl kc : IntKind} {L C : Int} (hl : a.eval l = .int kl L) (hc : a.eval c = .int kc C) (hL : L = (n : Int)) (hC : C = (n : Int)) (b2 : bytes * n ≤ 281474976710656) (b3 : n ≤ maxLen)
    {base : Nat} (b4 : base ≤ w.heap.size)
    (h : ∀ w', (∃ z : Value, w'.ownsRow base e size (.slice (some ⟨w.heap.size, 0, none⟩) n n) n (madeCells z.cells (n * size)).toList ∧ z.cells.size = size) → Below w.heap.size w w' → wpList P ops Q rest (a.put o.dst (.slice (some ⟨w.heap.size, 0, none⟩) n n)) w') :
    wpList P ops Q (o :: rest) a w := by
  obtain ⟨i, z, hi, hz, hsize, hby, hzs⟩ := E.info
  exact wpList_make_full w hg l c t hop base e i z size E.und hi hz hsize kl kc L C n hl hc hL hC (by rw [hby]; exact b2) b3 b4 fun w' h1 h2 => h w' ⟨z, h1, hzs⟩ (below_of_grown h2 (Nat.le_refl _) (by simp))
end

/-- copy onto a whole row of the call's own, of one cell an element -/
theorem wpList_cp {P : Program} {w : World} {ops : Array Oper} {rest : List Oper} {o : Oper} {a : Act} {Q : Exit → Act → World → Prop} (hgd : o.guard = none) (d s : Operand) {t e : TypeId} {bytes : Nat}
    (ho : o.op = .call { callee := .builtin .copy, args := #[d, s], argTypes := #[t, t] }) (E : Elem P t e 1 bytes) {base n c sLen sCap : Nat} {A B : Option Addr} {xs news : List Value}
    (hd : a.eval d = .slice A n c) (hs : a.eval s = .slice B sLen sCap) (hown : w.ownsRow base e 1 (.slice A n c) n xs) (hl : news.length = n) (hle : n ≤ sLen) (hr : Sl w B news) (h1 : ∀ u ∈ news, u.oneCell' = true)
    (h : ∀ w', w'.ownsRow base e 1 (.slice A n c) n news → Below base w w' → wpList P ops Q rest (a.put o.dst (goInt n)) w') : wpList P ops Q (o :: rest) a w := by
  obtain ⟨i, z, hi, hz, hsize, hby, hzs⟩ := E.info
  have hsz : (P.info? e).map (·.size) = some 1 := by rw [hi]; simp [hsize]
  by_cases h0 : n = 0
  · subst h0
    obtain rfl : news = [] := List.eq_nil_of_length_eq_zero hl
    obtain rfl : xs = [] := List.eq_nil_of_length_eq_zero (by simpa using hown.1)
    exact wpList_copy_nothing hgd d s t t ho e E.und hsz A B 0 c sLen sCap hd hs (by simp) (h w hown (Below.refl _ _))
  · rcases hown.2 with ⟨_, hn⟩ | ⟨g, cap, cur, hv, hg, hh, hnc, hcm, hcs, ht⟩
    · exact absurd hn h0
    · injection hv with e1 e2 e3
      subst e1; subst e3
      have hne : news ≠ [] := by intro hh; rw [hh] at hl; exact h0 hl.symm
      obtain ⟨b, off, rfl, hc⟩ := hr hne
      have hcl : cur.toList.length = c := by simpa using hcs
      refine wpList_copy_splice hgd d s t t ho e E.und hsz (some ⟨g, 0, none⟩) (some ⟨b, off, none⟩) n c sLen sCap hd hs g 0 cur.toList e (by simpa using hh) news (by rw [hl]; exact (Nat.min_eq_right hle).symm)
        (fun _ => ⟨rfl, _, rfl, fun j v hv => by rw [addr_add]; exact hc j v hv⟩) (by omega) h1 base w (Below.refl _ _) hg ?_
      intro w' hw' hb
      have hw := hw'.out
      rw [show goInt news.length = goInt n from by rw [hl]]
      refine h w' ⟨by omega, .inr ⟨g, c, _, rfl, hg, hw, hnc, hcm, ?_, ?_⟩⟩ hb
      · simp [splice, hl]; omega
      · simp [splice, hl]

theorem own : ownKnob Try.prog.godebug = none := by kernel_rfl
theorem laidOut : laidOutB Try.prog = true := by kernel_rfl
end Go.Proofs.Ytldnponbkhgijaa
end
section
/-
  What came in, by its type's shape: integers, bools, strings, structs of these, slices of all of it, as rows of cells.
-/
namespace Go.Proofs.Ytldnponbkhgijaa
open Go.ChangeShapes Go.WideShapes Go.ChangeAt Go.RowKit
set_option linter.unusedVariables false

inductive Shape where
  | int (k : IntKind)
  | bool
  | str
  | sl (s : Shape)
  | cat (a b : Shape)
  | nil

def Shape.size : Shape → Nat
  | .int _ => 1
  | .bool => 1
  | .str => 1
  | .sl _ => 1
  | .cat a b => a.size + b.size
  | .nil => 0

/-- a struct's fields, one behind the other -/
def fieldsShape (P : Program) (f : TypeId → Option Shape) : List Field → Nat → Option Shape
  | [], _ => some .nil
  | x :: r, off =>
    match f x.type with
    | some s =>
      if x.offset = off ∧ P.cellsOf x.type = s.size then
        match fieldsShape P f r (off + s.size) with
        | some q => some (.cat s q)
        | none => none
      else none
    | none => none

def shapeOf (P : Program) : Nat → TypeId → Option Shape
  | 0, _ => none
  | n + 1, t =>
    match P.underlying t with
    | some (.int k) => some (.int k)
    | some .bool => some .bool
    | some .string => some .str
    | some (.slice e) =>
      match shapeOf P n e with
      | some s => if P.cellsOf e = s.size then some (.sl s) else none
      | none => none
    | some (.struct fs) =>
      match fieldsShape P (shapeOf P n) fs.toList 0 with
      | some s => if P.cellsOf t = s.size then some s else none
      | none => none
    | _ => none

/-- the cells cs read as a value of the shape -/
def Rd (w : World) : Shape → List Value → Prop
  | .int k, cs => ∃ n, cs = [.int k n] ∧ (Lit.int k n).wf = true
  | .bool, cs => ∃ b, cs = [.bool b]
  | .str, cs => ∃ s, cs = [.string s] ∧ s.size ≤ maxLen
  | .sl s, cs => ∃ (A : Option Addr) (n c : Nat) (rows : List (List Value)), cs = [.slice A n c] ∧ n ≤ c ∧ c ≤ maxLen ∧ rows.length = n ∧ Sl w A rows.flatten ∧ ∀ r ∈ rows, Rd w s r
  | .cat a b, cs => ∃ x y, cs = x ++ y ∧ Rd w a x ∧ Rd w b y
  | .nil, cs => cs = []

theorem flatten_at {α : Type} (k : Nat) : ∀ (rows : List (List α)), (∀ r ∈ rows, r.length = k) → ∀ j u, rows.flatten[j]? = some u → ∃ i r, i < rows.length ∧ r < k ∧ j = i * k + r ∧ ∃ row, rows[i]? = some row ∧ row[r]? = some u := by
  intro rows
  induction rows with
  | nil => intro _ j u h; simp at h
  | cons a l ih =>
    intro hk j u h
    have ha := hk a (by simp)
    rw [List.flatten_cons] at h
    by_cases hj : j < a.length
    · rw [List.getElem?_append_left hj] at h
      exact ⟨0, j, by simp, by omega, by omega, a, by simp, h⟩
    · rw [List.getElem?_append_right (by omega)] at h
      obtain ⟨i, r, hi, hr, he, row, h1, h2⟩ := ih (fun x hx => hk x (by simp [hx])) _ _ h
      refine ⟨i + 1, r, by simp; omega, hr, ?_, row, by simpa using h1, h2⟩
      rw [Nat.add_mul]
      omega

section
variable {H : Type} {enc : TypeId × Value → H} {P : Program} {w : World} {base : Nat} {spare : Nat → Bool} {held : Bool}

theorem fields_rd (f : TypeId → Option Shape) (hf : ∀ t s, f t = some s → ∀ fuel cs x, DataW.trod enc P w base spare held fuel t cs = some x → Rd w s cs ∧ cs.length = s.size)
    (m : Nat) (cs : List Value) : ∀ (l : List Field) (off : Nat) (s : Shape), fieldsShape P f l off = some s → off + s.size ≤ cs.length →
      (∀ x ∈ l, ∃ y, DataW.trod enc P w base spare held m x.type ((cs.drop x.offset).take (P.cellsOf x.type)) = some y) → Rd w s ((cs.drop off).take s.size) := by
  intro l
  induction l with
  | nil =>
    intro off s h _ _
    simp only [fieldsShape, Option.some.injEq] at h
    subst h
    simp [Rd, Shape.size]
  | cons x r ih =>
    intro off s h hlen hx
    simp only [fieldsShape] at h
    split at h
    · rename_i sx hsx
      split at h
      · rename_i hc
        split at h
        · rename_i q hq
          simp only [Option.some.injEq] at h
          subst h
          simp only [Shape.size] at hlen ⊢
          obtain ⟨y, hy⟩ := hx x (by simp)
          rw [hc.1, hc.2] at hy
          have h1 := (hf _ _ hsx _ _ _ hy).1
          have h2 := ih (off + sx.size) q hq (by omega) (fun z hz => hx z (by simp [hz]))
          refine ⟨_, _, ?_, h1, h2⟩
          rw [List.take_add, List.drop_drop]
        · cases h
      · cases h
    · cases h

theorem trod_shape : ∀ (n : Nat) (t : TypeId) (s : Shape), shapeOf P n t = some s → ∀ (fuel : Nat) (cs : List Value) (x : DataW H × List MemPlace), DataW.trod enc P w base spare held fuel t cs = some x → Rd w s cs ∧ cs.length = s.size := by
  intro n
  induction n with
  | zero => intro t s h; simp [shapeOf] at h
  | succ n ih =>
    intro t s h fuel cs x hx
    unfold shapeOf at h
    split at h
    · rename_i k hu
      simp only [Option.some.injEq] at h; subst h
      obtain ⟨v, rfl, _, hw⟩ := DataW.trod_int hu hx
      exact ⟨⟨v, rfl, hw⟩, rfl⟩
    · rename_i hu
      simp only [Option.some.injEq] at h; subst h
      obtain ⟨v, rfl, _⟩ := DataW.trod_bool hu hx
      exact ⟨⟨v, rfl⟩, rfl⟩
    · rename_i hu
      simp only [Option.some.injEq] at h; subst h
      obtain ⟨v, rfl, _, hs⟩ := DataW.trod_string hu hx
      exact ⟨⟨v, rfl, hs⟩, rfl⟩
    · rename_i e hu
      split at h
      · rename_i q hq
        split at h
        · rename_i hc
          simp only [Option.some.injEq] at h; subst h
          rcases Go.Deep.open_slice hu hx with ⟨rfl, _⟩ | ⟨a, len, cap, m, fu, D, Pl, rfl, _, hl, hm, hmm, _, hi⟩
          · exact ⟨⟨none, 0, 0, [], rfl, Nat.le_refl _, by decide, rfl, Sl.nil, fun r hr => by cases hr⟩, rfl⟩
          · have hlm : len ≤ m := by rw [hmm]; split <;> omega
            rw [hc] at hi
            obtain ⟨R, hR⟩ := Go.Deep.choose_lt (α := List Value) (p := fun i cs' => w.cells? base (a.add (i * q.size)) q.size = some cs' ∧ DataW.trod enc P w base spare held fu e cs' = some (D i, Pl i)) hi
            refine ⟨⟨some a, len, cap, (List.range len).map R, rfl, hl, hm, by simp, ?_, ?_⟩, rfl⟩
            · have hrow : ∀ r ∈ (List.range len).map R, r.length = q.size := by
                intro r hr
                simp at hr
                obtain ⟨i, hi', rfl⟩ := hr
                exact (ih e q hq _ _ _ (hR i (by omega)).2).2
              have hcell : ∀ j u, ((List.range len).map R).flatten[j]? = some u → w.cell? (a.add j) = some u := by
                intro j u hu'
                obtain ⟨i, r, hi', hr, rfl, row, h1, h2⟩ := flatten_at q.size _ hrow j u hu'
                simp at hi'
                simp [hi'] at h1
                subst h1
                obtain ⟨_, hcl, hat⟩ := World.cells?_some (hR i (by omega)).1
                have := hat r hr
                rw [Go.Deep.add_add, h2] at this
                exact this
              intro hne
              have h0 : ∃ u, ((List.range len).map R).flatten[0]? = some u := by
                cases hf : ((List.range len).map R).flatten with
                | nil => exact absurd hf hne
                | cons u _ => exact ⟨u, rfl⟩
              obtain ⟨u, hu0⟩ := h0
              obtain ⟨b, o, sp⟩ := a
              have hsp : sp = none := by
                have := World.cell?_spot (hcell 0 u hu0)
                simpa [Addr.add] using this
              subst hsp
              exact ⟨b, o, rfl, fun j u hu => by rw [← addr_add]; exact hcell j u hu⟩
            · intro r hr
              simp at hr
              obtain ⟨i, hi', rfl⟩ := hr
              exact (ih e q hq _ _ _ (hR i (by omega)).2).1
        · cases h
      · cases h
    · rename_i fs hu
      split at h
      · rename_i q hq
        split at h
        · rename_i hc
          simp only [Option.some.injEq] at h; subst h
          obtain ⟨xs, m, _, _, hlen, hxl, hat⟩ := DataW.trod_struct hu hx
          have hcl : cs.length = q.size := by rw [hlen, hc]
          refine ⟨?_, hcl⟩
          have := fields_rd (enc := enc) (base := base) (spare := spare) (held := held) (shapeOf P n) ih m cs fs.toList 0 q hq (by omega) (fun f hf => by
            obtain ⟨i, hi, rfl⟩ := List.getElem_of_mem hf
            have hi' : i < fs.size := by simpa using hi
            have h1 := hat i fs[i] (Array.getElem?_eq_getElem hi')
            rw [List.getElem?_eq_getElem (by omega)] at h1
            exact ⟨_, by simpa using h1⟩)
          rwa [List.drop_zero, List.take_of_length_le (by omega)] at this
        · cases h
      · cases h
    · cases h

/-- an argument: its value's cells read by its shape -/
theorem arg_shape {n : Nat} {t : TypeId} {s : Shape} {v : Value} {d : DataW H} {p : List MemPlace} (hs : shapeOf P n t = some s) (h : DataW.Trod enc P w base spare held t v d p) : Rd w s v.cells.toList := by
  obtain ⟨fuel, hf⟩ := h
  exact (trod_shape n t s hs fuel _ _ hf).1
end

/-- a slice of integers that came in -/
theorem rd_ints {w : World} {k : IntKind} {A : Option Addr} {n c : Nat} (h : Rd w (.sl (.int k)) [.slice A n c]) :
    ∃ l : List Int, l.length = n ∧ n ≤ c ∧ c ≤ maxLen ∧ Sl w A (ints k l) ∧ ∀ x ∈ l, (Lit.int k x).wf = true := by
  obtain ⟨A', n', c', rows, e, h1, h2, h3, h4, h5⟩ := h
  simp only [List.cons.injEq, Value.slice.injEq, and_true] at e
  obtain ⟨rfl, rfl, rfl⟩ := e
  have key : ∀ rows : List (List Value), (∀ r ∈ rows, Rd w (.int k) r) → ∃ l : List Int, l.length = rows.length ∧ rows.flatten = ints k l ∧ ∀ x ∈ l, (Lit.int k x).wf = true := by
    intro rows
    induction rows with
    | nil => intro _; exact ⟨[], rfl, rfl, fun x hx => by cases hx⟩
    | cons r rows ih =>
      intro h
      obtain ⟨l, a1, a2, a3⟩ := ih (fun x hx => h x (by simp [hx]))
      obtain ⟨x, rfl, hx⟩ := h r (by simp)
      refine ⟨x :: l, by simp [a1], by simp [a2, ints], ?_⟩
      intro y hy
      rcases List.mem_cons.1 hy with rfl | hy
      · exact hx
      · exact a3 y hy
  obtain ⟨l, a1, a2, a3⟩ := key rows h5
  rw [a2] at h4
  exact ⟨l, by omega, h1, h2, h4, a3⟩

section
variable {w w' : World}
theorem Rd.below : ∀ (s : Shape) {cs : List Value}, Rd w s cs → Below w.heap.size w w' → Rd w' s cs := by
  intro s
  induction s with
  | int k => intro cs h _; exact h
  | bool => intro cs h _; exact h
  | str => intro cs h _; exact h
  | nil => intro cs h _; exact h
  | cat a b iha ihb => intro cs ⟨x, y, e, h1, h2⟩ hb; exact ⟨x, y, e, iha h1 hb, ihb h2 hb⟩
  | sl s ih => intro cs ⟨A, n, c, rows, e, h1, h2, h3, h4, h5⟩ hb; exact ⟨A, n, c, rows, e, h1, h2, h3, h4.below hb, fun r hr => ih (h5 r hr) hb⟩
end
end Go.Proofs.Ytldnponbkhgijaa
end
section
/-
  Rows of structs of any number of cells in memory of the call's own: copy, clear, stores; and plain mathematics of sorted rows.
-/
namespace Go.Proofs.Ytldnponbkhgijaa
open Go.ChangeShapes Go.WideShapes Go.ChangeAt Go.RowKit
set_option linter.unusedVariables false
set_option linter.unusedSimpArgs false

section
variable {P : Program}
/-- copy onto a row that is known whole, elements of any size -/
theorem run_copyN (w : World) (dT sT ty elem : TypeId) (size g o dLen dCap : Nat) (a : Addr) (sLen sCap : Nat) (cur : Array Value) (t : TypeId) (cs : List Value)
    (hu : P.underlying dT = some (.slice elem)) (hs : (P.info? elem).map (·.size) = some size)
    (hg : w.heap[g]? = some (.cells cur t (0, 0))) (hn : cs.length = Nat.min sLen dLen * size)
    (hsrc : ∀ j v, cs[j]? = some v → w.cell? (a.add j) = some v) (hfit : o + cs.length ≤ cur.size) (h1 : ∀ v ∈ cs, v.oneCell' = true) :
    (Builtin.copy_ #[dT, sT] ty #[.slice (some ⟨g, o, none⟩) dLen dCap, .slice (some a) sLen sCap]).run P w =
      .ok (goInt (Nat.min sLen dLen)) (w.setRow g (cur.toList.take o ++ cs ++ cur.toList.drop (o + cs.length)).toArray) := by
  have hl := run_loadCells_list (P := P) w a cs hsrc
  have hst := run_storeCells_at P g o t cs 0 cur w hg (by simpa using hfit) h1
  rw [hn] at hl
  cases hq : P.info? elem with
  | none => simp [hq] at hs
  | some i =>
    have hi : i.size = size := by simpa [hq] using hs
    simp [Builtin.copy_, run_underlying hu, Builtin.lenOf, Builtin.firstCells, sizeOf, typeInfo, hq, hi, hl, hst]

theorem wpList_copyN {w : World} {ops : Array Oper} {rest : List Oper} {o : Oper} {a : Act} {Q : Exit → Act → World → Prop} (hgd : o.guard = none) (d s : Operand) (dT sT : TypeId)
    (ho : o.op = .call { callee := .builtin .copy, args := #[d, s], argTypes := #[dT, sT] }) (elem : TypeId) (size : Nat) (hu : P.underlying dT = some (.slice elem)) (hsz : (P.info? elem).map (·.size) = some size)
    (g off dLen dCap : Nat) (ad : Addr) (sLen sCap : Nat) (hd : a.eval d = .slice (some ⟨g, off, none⟩) dLen dCap) (hs : a.eval s = .slice (some ad) sLen sCap)
    (cur : List Value) (t : TypeId) (hg : w.heap[g]? = some (.cells cur.toArray t (0, 0))) (cs : List Value) (hn : cs.length = Nat.min sLen dLen * size)
    (hsrc : ∀ j v, cs[j]? = some v → w.cell? (ad.add j) = some v) (hfit : off + cs.length ≤ cur.length) (h1 : ∀ v ∈ cs, v.oneCell' = true) (B : Nat) (w0 : World) (hb : Below B w0 w) (hBg : B ≤ g)
    (h : ∀ w', Hid (w'.heap[g]? = some (.cells (splice cur off cs).toArray t (0, 0))) → Hid (∀ k, k ≠ g → w'.heap[k]? = w.heap[k]?) → Below B w0 w' → wpList P ops Q rest (a.put o.dst (goInt (Nat.min sLen dLen))) w') : wpList P ops Q (o :: rest) a w := by
  refine wpList_plain hgd fun K hK => ?_
  have hrun := run_copyN (P := P) w dT sT o.type elem size g off dLen dCap ad sLen sCap cur.toArray t cs hu hsz hg hn hsrc (by simpa using hfit) h1
  unfold Oper.wp
  simp [execOp, ho, resolve, invoke, builtin, hd, hs, hrun, Result.andThen]
  exact hK _ _ (h _ (show _ = _ by simpa [splice] using setRow_heap w g _ _ t _ hg) (show ∀ k, k ≠ g → _ from fun k hk => setRow_other w g k _ hk) (below_setRow hb hBg _))

theorem step_copyN {ops : Array Oper} {o : Oper} {a : Act} {w : World} {K : Act → World → Prop} {Q : Exit → Act → World → Prop} {E : Prop} (hgd : o.guard = none) (d s : Operand) (dT sT : TypeId)
    (ho : o.op = .call { callee := .builtin .copy, args := #[d, s], argTypes := #[dT, sT] }) (elem : TypeId) (size : Nat) (hu : P.underlying dT = some (.slice elem)) (hsz : (P.info? elem).map (·.size) = some size)
    (g off dLen dCap : Nat) (ad : Addr) (sLen sCap : Nat) (hd : a.eval d = .slice (some ⟨g, off, none⟩) dLen dCap) (hs : a.eval s = .slice (some ad) sLen sCap)
    (cur : List Value) (t : TypeId) (hg : w.heap[g]? = some (.cells cur.toArray t (0, 0))) (cs : List Value) (hn : cs.length = Nat.min sLen dLen * size)
    (hsrc : ∀ j v, cs[j]? = some v → w.cell? (ad.add j) = some v) (hfit : off + cs.length ≤ cur.length) (h1 : ∀ v ∈ cs, v.oneCell' = true) (B : Nat) (w0 : World) (hb : Below B w0 w) (hBg : B ≤ g)
    (h : ∀ w', Hid (w'.heap[g]? = some (.cells (splice cur off cs).toArray t (0, 0))) → Hid (∀ k, k ≠ g → w'.heap[k]? = w.heap[k]?) → Below B w0 w' → K (a.put o.dst (goInt (Nat.min sLen dLen))) w') :
    if Region.wanted o (yielded ops a.tmps) = true then Oper.wp P o a w K Q else E := by
  have hw : Region.wanted o (yielded ops a.tmps) = true := by simp [Region.wanted, hgd]
  rw [if_pos hw]
  have hrun := run_copyN (P := P) w dT sT o.type elem size g off dLen dCap ad sLen sCap cur.toArray t cs hu hsz hg hn hsrc (by simpa using hfit) h1
  unfold Oper.wp
  simp [execOp, ho, resolve, invoke, builtin, hd, hs, hrun, Result.andThen]
  exact h _ (show _ = _ by simpa [splice] using setRow_heap w g _ _ t _ hg) (show ∀ k, k ≠ g → _ from fun k hk => setRow_other w g k _ hk) (below_setRow hb hBg _)

/-- clear of a part of a row that is known whole, elements of any size -/
theorem run_clearN (w : World) (t e ty : TypeId) (z : Value) (ht : P.underlying t = some (.slice e)) (hv : ∀ w, (zeroValue e).run P w = .ok z w) (g o n c : Nat) (cur : Array Value) (te : TypeId) (hn : 0 < n)
    (hg : w.heap[g]? = some (.cells cur te (0, 0))) (hfit : o + (Builtin.zeroCells z.cells n).size ≤ cur.size) (h1 : ∀ v ∈ (Builtin.zeroCells z.cells n).toList, v.oneCell' = true) :
    (Builtin.clear_ #[t] ty #[.slice (some ⟨g, o, none⟩) n c]).run P w = .ok (.tuple #[]) (w.setRow g (cur.toList.take o ++ (Builtin.zeroCells z.cells n).toList ++ cur.toList.drop (o + (Builtin.zeroCells z.cells n).toList.length)).toArray) := by
  have hst := run_storeCells_at P g o te (Builtin.zeroCells z.cells n).toList 0 cur w hg (by simpa using hfit) h1
  simp only [Nat.add_zero] at hst
  obtain ⟨m, rfl⟩ : ∃ m, n = m + 1 := ⟨n - 1, by omega⟩
  simp [Builtin.clear_, run_underlying ht, hv, hst]
end

section
variable {w : World} {base : Nat} {e : TypeId} {size n c : Nat} {xs : List Value}
/-- one store into a row of the call's own -/
theorem own_set1 {g k : Nat} (h : w.ownsRow base e size (.slice (some ⟨g, 0, none⟩) n c) n xs) (hk : k < xs.length) (v : Value) :
    (w.setCell ⟨g, k, none⟩ v).ownsRow base e size (.slice (some ⟨g, 0, none⟩) n c) n (xs.set k v) := by
  refine ⟨by simpa using h.1, ?_⟩
  rcases h.2 with ⟨hv, _⟩ | ⟨g', cap, cur, hv, hb, hg, hnc, hcm, hcs, ht⟩
  · cases hv
  · injection hv with e1 e2 e3
    injection e1 with e1
    injection e1 with e1
    subst e1; subst e3
    have hkc : k < cur.size := by
      have h2 := h.1
      have : n * size ≤ c * size := Nat.mul_le_mul_right _ hnc
      omega
    refine .inr ⟨g, c, cur.set! k v, rfl, hb, ?_, hnc, hcm, by simpa using hcs, ?_⟩
    · rw [setCell_eq_setRow w g k cur e (0, 0) v hg]
      first | exact setRow_heap _ _ _ _ _ _ hg | simpa using setRow_heap _ _ _ _ _ _ hg
    · rw [← ht]
      simp
      rw [List.take_set]
theorem own_slice_g {g : Nat} (h : w.ownsRow base e size (.slice (some ⟨g, 0, none⟩) n c) n xs) : base ≤ g ∧ g < w.heap.size ∧ (∀ i, w.frozen? ⟨g, i, none⟩ = false) ∧ ∀ j u, xs[j]? = some u → w.cell? ⟨g, j, none⟩ = some u := by
  have hc := World.ownsRow.cells h (g := g) rfl
  rcases h.2 with ⟨hv, _⟩ | ⟨g', cap, cur, hv, hb, hg, hnc, hcm, hcs, ht⟩
  · cases hv
  · injection hv with e1 e2 e3
    injection e1 with e1
    injection e1 with e1
    subst e1; subst e3
    refine ⟨hb, ?_, fun i => by simp [World.frozen?, hg], fun j u hu => ?_⟩
    · rcases Nat.lt_or_ge g w.heap.size with hlt | hge
      · exact hlt
      · rw [Array.getElem?_eq_none hge] at hg; cases hg
    · have := hc j u hu
      rwa [addr_add, Nat.zero_add] at this
theorem own_below {w w' : World} {B e size n : Nat} {v : Value} {xs : List Value} (h : w.ownsRow B e size v n xs) (hb : Below w.heap.size w w') : w'.ownsRow B e size v n xs := by
  obtain ⟨h1, h2⟩ := h
  refine ⟨h1, ?_⟩
  rcases h2 with h2 | ⟨g, cap, cur, hv, hg, hh, hr⟩
  · exact .inl h2
  · refine .inr ⟨g, cap, cur, hv, hg, ?_, hr⟩
    have hlt : g < w.heap.size := by
      rcases Nat.lt_or_ge g w.heap.size with hlt | hge
      · exact hlt
      · rw [Array.getElem?_eq_none hge] at hh; cases hh
    rw [hb.block g hlt]
    exact hh
theorem own_keep {w' : World} {B : Nat} (h : w.ownsRow base e size (.slice (some ⟨B, 0, none⟩) n c) n xs) (hk : w'.heap[B]? = w.heap[B]?) : w'.ownsRow base e size (.slice (some ⟨B, 0, none⟩) n c) n xs := by
  obtain ⟨h1, h2⟩ := h
  refine ⟨h1, ?_⟩
  rcases h2 with h2 | ⟨g, cap, cur, hv, hg, hh, hr⟩
  · exact .inl h2
  · refine .inr ⟨g, cap, cur, hv, hg, ?_, hr⟩
    injection hv with e1
    injection e1 with e1
    injection e1 with e1
    subst e1
    rw [hk]; exact hh
end

/-- a function that is entered where it is called -/
def Ent (P : Program) (F : FuncId) : Prop := ∀ args w, (callFunc F args).run P w = .ok (.enter F args) w
theorem Ent.of {P : Program} {F : FuncId} (h : ((P.funcs[F]?).map fun f => (f.name == "runtime.NumGoroutine", f.body.isSome)) = some (false, true)) : Ent P F := by
  intro args w
  cases hf : P.funcs[F]? with
  | none => rw [hf] at h; simp at h
  | some fn =>
    rw [hf] at h
    simp only [Option.map_some, Option.some.injEq, Prod.mk.injEq] at h
    have h1 : fn.name ≠ "runtime.NumGoroutine" := by simpa using h.1
    cases hb : fn.body with
    | none => rw [hb] at h; simp at h
    | some c => simp [callFunc, hf, h1, hb]

/-- append as one step of a region that draws -/
theorem step_app {P : Program} {w : World} {ops : Array Oper} {o : Oper} {a : Act} {K : Act → World → Prop} {Q : Exit → Act → World → Prop} {Z : Prop} (hgd : o.guard = none) (s x : Operand) {t e : TypeId} {size bytes : Nat}
    (ho : o.op = .call { callee := .builtin .append, args := #[s, x], argTypes := #[t, t] }) (E : Elem P t e size bytes) {base n m c d : Nat} {A B : Option Addr} {xs news : List Value}
    (hs : a.eval s = .slice A n c) (hx : a.eval x = .slice B m d)
    (hown : w.ownsRow base e size (.slice A n c) n xs) (hl : news.length = m * size) (hr : Sl w B news) (h1 : ∀ u ∈ news, u.oneCell' = true)
    (h63 : n + m ≤ maxLen) (hb : (n + m) * bytes ≤ 140737488355328) (hbase : base ≤ w.heap.size)
    (h : ∀ A' c' w', w'.ownsRow base e size (.slice A' (n + m) c') (n + m) (xs ++ news) → w.grownBy w' (Value.slice A n c).ownBlock → Below base w w' → K (a.put o.dst (.slice A' (n + m) c')) w') :
    if Region.wanted o (yielded ops a.tmps) = true then Oper.wp P o a w K Q else Z := by
  have hw : Region.wanted o (yielded ops a.tmps) = true := by simp [Region.wanted, hgd]
  rw [if_pos hw]
  exact wp_app s x ho E hs hx hown hl hr h1 h63 hb hbase h
theorem own_base {w : World} {base base' e size n : Nat} {v : Value} {xs : List Value} (h : w.ownsRow base e size v n xs) (hb : base' ≤ base) : w.ownsRow base' e size v n xs := by
  obtain ⟨h1, h2⟩ := h
  refine ⟨h1, ?_⟩
  rcases h2 with h2 | ⟨g, cap, cur, hv, hg, hr⟩
  · exact .inl h2
  · exact .inr ⟨g, cap, cur, hv, Nat.le_trans hb hg, hr⟩

/-! rows of elements of one number of cells -/
def rc {α : Type} (f : α → List Value) (l : List α) : List Value := (l.map f).flatten
section
variable {α : Type} {f : α → List Value} {m : Nat}
theorem rc_nil : rc f [] = [] := rfl
theorem rc_cons (a : α) (l : List α) : rc f (a :: l) = f a ++ rc f l := by simp [rc]
theorem rc_append (a b : List α) : rc f (a ++ b) = rc f a ++ rc f b := by simp [rc]
theorem rc_length (hf : ∀ a, (f a).length = m) (l : List α) : (rc f l).length = l.length * m := by
  induction l with
  | nil => simp [rc]
  | cons a l ih => rw [rc_cons, List.length_append, ih, hf, List.length_cons, Nat.add_mul]; omega
theorem rc_one (h1 : ∀ a, ∀ u ∈ f a, u.oneCell' = true) (l : List α) : ∀ u ∈ rc f l, u.oneCell' = true := by
  intro u hu
  simp only [rc, List.mem_flatten, List.mem_map] at hu
  obtain ⟨_, ⟨g, _, rfl⟩, hu⟩ := hu
  exact h1 g u hu
theorem rc_at (hf : ∀ a, (f a).length = m) : ∀ (l : List α) (k : Nat) (h : k < l.length) (j : Nat), j < m → (rc f l)[k * m + j]? = (f l[k])[j]? := by
  intro l
  induction l with
  | nil => intro k h; simp at h
  | cons a l ih =>
    intro k h j hj
    rw [rc_cons]
    cases k with
    | zero => rw [List.getElem?_append_left (by rw [hf]; omega)]; simp
    | succ k =>
      rw [List.getElem?_append_right (by rw [hf, Nat.add_mul]; omega), hf, show (k + 1) * m + j - m = k * m + j from by rw [Nat.add_mul]; omega]
      rw [ih k (by simpa using h) j hj]
      simp
theorem rc_take (hf : ∀ a, (f a).length = m) (l : List α) (k : Nat) : (rc f l).take (k * m) = rc f (l.take k) := by
  induction l generalizing k with
  | nil => simp [rc]
  | cons a l ih =>
    cases k with
    | zero => simp [rc]
    | succ k =>
      rw [rc_cons, List.take_succ_cons, rc_cons, List.take_append, hf, show (k + 1) * m - m = k * m from by rw [Nat.add_mul]; omega, ih, List.take_of_length_le (by rw [hf, Nat.add_mul]; omega)]
theorem rc_drop (hf : ∀ a, (f a).length = m) (l : List α) (k : Nat) : (rc f l).drop (k * m) = rc f (l.drop k) := by
  induction l generalizing k with
  | nil => simp [rc]
  | cons a l ih =>
    cases k with
    | zero => simp [rc]
    | succ k =>
      rw [rc_cons, List.drop_succ_cons, List.drop_append, hf, show (k + 1) * m - m = k * m from by rw [Nat.add_mul]; omega, ih, List.drop_eq_nil_of_le (by rw [hf, Nat.add_mul]; omega), List.nil_append]
/-- the cells of one element, wherever the row lies -/
theorem Sl.elem {w : World} {A : Option Addr} {l : List α} (hf : ∀ a, (f a).length = m) (hm : 0 < m) (h : Sl w A (rc f l)) {k : Nat} (hk : k < l.length) :
    ∃ b o, A = some ⟨b, o, none⟩ ∧ b < w.heap.size ∧ ∀ j u, (f l[k])[j]? = some u → w.cell? ⟨b, o + k * m + j, none⟩ = some u := by
  have hlen := rc_length hf l
  have hpos : k * m + 0 < (rc f l).length := by
    rw [hlen]
    have : (k + 1) * m ≤ l.length * m := Nat.mul_le_mul_right _ hk
    rw [Nat.add_mul] at this
    omega
  obtain ⟨b, o, hA, hc⟩ := h (by intro e; rw [e] at hpos; simp at hpos)
  have hg : ∀ j u, (f l[k])[j]? = some u → w.cell? ⟨b, o + k * m + j, none⟩ = some u := by
    intro j u hu
    have hj : j < m := by
      have := (List.getElem?_eq_some_iff.1 hu).1
      rwa [hf] at this
    rw [Nat.add_assoc]
    exact hc _ _ ((rc_at hf l k hk j hj).trans hu)
  have hmem := hc (k * m + 0) _ (List.getElem?_eq_getElem hpos)
  exact ⟨b, o, hA, World.block_lt_of_cell? _ _ hmem, hg⟩
end

theorem shift_row {α : Type} (cur x D XS : List α) (p q N C : Nat) (hC : cur.length = C) (hNC : N + x.length ≤ C) (hq : q = p + x.length) (hp : q ≤ N) (hXS : cur.take N = XS) (hD : D = XS.drop p) :
    ((splice cur q D).take p ++ x ++ (splice cur q D).drop (p + x.length)).length = C ∧
    ((splice cur q D).take p ++ x ++ (splice cur q D).drop (p + x.length)).take (N + x.length) = XS.take p ++ (x ++ D) := by
  subst hq
  have hXl : XS.length = N := by rw [← hXS, List.length_take]; omega
  have hDl : D.length = N - p := by rw [hD, List.length_drop, hXl]
  have e1 : (splice cur (p + x.length) D).take p = XS.take p := by
    unfold splice
    rw [List.take_append_of_le_length (by rw [List.length_take]; omega), List.take_take, ← hXS, List.take_take]
    congr 1
    omega
  have e2 : (splice cur (p + x.length) D).drop (p + x.length) = D ++ cur.drop (p + x.length + D.length) := by
    unfold splice
    rw [List.drop_append, List.drop_eq_nil_of_le (by rw [List.length_take]; omega), List.length_take, Nat.min_eq_left (by omega), Nat.sub_self, List.drop_zero, List.nil_append]
  rw [e1, e2]
  constructor
  · simp only [List.length_append, List.length_take, List.length_drop, hXl, hDl, hC]
    omega
  · rw [List.append_assoc, ← List.append_assoc x, ← List.append_assoc (XS.take p)]
    rw [List.take_append_of_le_length (by simp only [List.length_append, List.length_take, hXl, hDl]; omega)]
    exact List.take_of_length_le (by simp only [List.length_append, List.length_take, hXl, hDl]; omega)

theorem grow_row {α : Type} (ROW x D XS : List α) (p q C : Nat) (hC : ROW.length = C) (hq : q = p + x.length) (hfit : q + D.length ≤ C) (hXS : ROW.take p = XS.take p) :
    (splice (ROW.take p ++ x ++ ROW.drop (p + x.length)) q D).length = C ∧ (splice (ROW.take p ++ x ++ ROW.drop (p + x.length)) q D).take (q + D.length) = XS.take p ++ (x ++ D) := by
  subst hq
  have h1 : (ROW.take p ++ x).length = p + x.length := by rw [List.length_append, List.length_take]; omega
  have e1 : (ROW.take p ++ x ++ ROW.drop (p + x.length)).take (p + x.length) = XS.take p ++ x := by
    rw [List.take_append_of_le_length (by omega), List.take_of_length_le (by omega), hXS]
  have h2 : (ROW.take p ++ x ++ ROW.drop (p + x.length)).length = C := by rw [List.length_append, h1, List.length_drop]; omega
  constructor
  · rw [length_splice _ _ _ (by rw [h2]; exact hfit), h2]
  · unfold splice
    rw [e1, ← List.append_assoc, List.take_append_of_le_length (by rw [List.length_append, ← hXS, h1]; exact Nat.le_refl _), List.take_of_length_le (by rw [List.length_append, ← hXS, h1]; exact Nat.le_refl _), List.append_assoc]
theorem zeroCells_size (cs : Array Value) (k : Nat) (h : cs.size ≠ 0) : (Builtin.zeroCells cs k).size = k * cs.size := by
  simp [Builtin.zeroCells, h]

theorem zeroCells_one (cs : Array Value) (k : Nat) (h0 : 0 < cs.size) (h : ∀ u ∈ cs, u.oneCell' = true) : ∀ v ∈ (Builtin.zeroCells cs k).toList, v.oneCell' = true := by
  intro v hv
  rw [Array.mem_toList_iff] at hv
  unfold Builtin.zeroCells at hv
  simp only [Array.mem_map] at hv
  obtain ⟨i, hi, rfl⟩ := hv
  rw [getElem!_pos cs (i % cs.size) (Nat.mod_lt _ h0)]
  exact h _ (Array.getElem_mem _)

/-! plain mathematics: a table's words -/
section
variable {α : Type}
theorem filter_snoc (p : α → Bool) (l : List α) (k : Nat) (h : k < l.length) : (l.take (k + 1)).filter p = (l.take k).filter p ++ if p l[k] = true then [l[k]] else [] := by
  rw [List.take_succ_eq_append_getElem h, List.filter_append]
  congr 1
  cases hq : p l[k] <;> simp [List.filter_cons, hq]
theorem filter_none {p : α → Bool} {l : List α} (h : ∀ j, (hj : j < l.length) → p l[j] = false) : l.filter (fun g => !p g) = l := by
  rw [List.filter_eq_self]
  intro x hx
  obtain ⟨j, hj, rfl⟩ := List.getElem_of_mem hx
  rw [h j hj]; rfl
theorem filter_head {p : α → Bool} {l : List α} {k : Nat} (hk : k < l.length) (h : ∀ j, (hj : j < k) → p (l[j]'(by omega)) = false) (he : p l[k] = true) : (l.take (k + 1)).filter (fun g => !p g) = l.take k := by
  rw [filter_snoc _ _ _ hk, he]
  simp only [Bool.not_true, Bool.false_eq_true, if_false, List.append_nil]
  refine filter_none fun j hj => ?_
  rw [List.getElem_take]
  exact h j (by simp at hj; omega)
theorem set_take_snoc {l : List α} {k : Nat} {a : α} (h : k < l.length) : (l.set k a).take (k + 1) = l.take k ++ [a] := by
  rw [List.take_succ_eq_append_getElem (by simpa using h), List.getElem_set_self, List.take_set_of_le (Nat.le_refl _)]
theorem set_get_above {l : List α} {k t : Nat} {a : α} (h : k < t) : (l.set k a)[t]? = l[t]? := by
  rw [List.getElem?_set_ne (by omega)]
def atL (p : α → Bool) (l : List α) : Int := match l.findIdx? p with | some k => (k : Int) | none => -1
theorem atL_cases (p : α → Bool) (l : List α) : (atL p l = -1 ∧ ∀ j, (hj : j < l.length) → p l[j] = false) ∨
    ∃ k : Nat, ∃ hk : k < l.length, atL p l = k ∧ p l[k] = true ∧ ∀ j, (hj : j < k) → p l[j] = false := by
  rcases h : l.findIdx? p with _ | k
  · left
    have e : atL p l = -1 := by unfold atL; rw [h]
    rw [List.findIdx?_eq_none_iff] at h
    exact ⟨e, fun j hj => h _ (List.getElem_mem hj)⟩
  · right
    have e : atL p l = k := by unfold atL; rw [h]
    rw [List.findIdx?_eq_some_iff_getElem] at h
    obtain ⟨hk, h1, h2⟩ := h
    exact ⟨k, hk, e, h1, fun j hj => by simpa using h2 j hj⟩
theorem atL_none {p : α → Bool} {l : List α} (h : ∀ j, (hj : j < l.length) → p l[j] = false) : atL p l = -1 := by
  rcases atL_cases p l with ⟨h1, _⟩ | ⟨k, hk, _, h2, _⟩
  · exact h1
  · rw [h k hk] at h2; cases h2
theorem atL_some {p : α → Bool} {l : List α} {k : Nat} (hk : k < l.length) (h : ∀ j, (hj : j < k) → p l[j] = false) (he : p l[k] = true) : atL p l = k := by
  rcases atL_cases p l with ⟨_, h1⟩ | ⟨k', hk', h1, h2, h3⟩
  · rw [h1 k hk] at he; cases he
  · rcases Nat.lt_trichotomy k k' with h4 | h4 | h4
    · rw [h3 k h4] at he; cases he
    · rw [h1, h4]
    · rw [h k' h4] at h2; cases h2
/-- the first that is told of, or the zero -/
def pickL (p : α → Bool) (z : α) (l : List α) : α := (l.find? p).getD z
theorem find_none {p : α → Bool} {l : List α} (h : ∀ j, (hj : j < l.length) → p l[j] = false) : l.find? p = none := by
  rw [List.find?_eq_none]
  intro x hx
  obtain ⟨j, hj, rfl⟩ := List.getElem_of_mem hx
  rw [h j hj]; decide
theorem find_some {p : α → Bool} {l : List α} {k : Nat} (hk : k < l.length) (h : ∀ j, (hj : j < k) → p (l[j]'(by omega)) = false) (he : p l[k] = true) : l.find? p = some l[k] := by
  rw [List.find?_eq_some_iff_getElem]
  exact ⟨he, k, hk, rfl, fun j hj => by rw [h j hj]; rfl⟩
def putL (ah : α → α → Bool) (l : List α) (x : α) : List α :=
  match l.findIdx? (fun y => !ah y x) with
  | none => l ++ [x]
  | some k => match l[k]? with
    | none => l ++ [x]
    | some y => if ah x y then l.take k ++ x :: l.drop k else l.set k x
theorem putL_none {ah : α → α → Bool} {l : List α} {x : α} (h : ∀ j, (hj : j < l.length) → (!ah l[j] x) = false) : putL ah l x = l ++ [x] := by
  have : l.findIdx? (fun y => !ah y x) = none := by
    rw [List.findIdx?_eq_none_iff]
    intro y hy
    obtain ⟨j, hj, rfl⟩ := List.getElem_of_mem hy
    exact h j hj
  rw [putL, this]
theorem putL_some {ah : α → α → Bool} {l : List α} {x : α} {k : Nat} (hk : k < l.length) (h : ∀ j, (hj : j < k) → (!ah l[j] x) = false) (he : (!ah l[k] x) = true) :
    putL ah l x = if ah x l[k] then l.take k ++ x :: l.drop k else l.set k x := by
  have : l.findIdx? (fun y => !ah y x) = some k := by
    rw [List.findIdx?_eq_some_iff_getElem]
    refine ⟨hk, he, fun j hj => ?_⟩
    rw [h j hj]; decide
  rw [putL, this]
  simp only [List.getElem?_eq_getElem hk]
theorem putL_length (ah : α → α → Bool) (l : List α) (x : α) : (putL ah l x).length ≤ l.length + 1 := by
  unfold putL
  split
  · simp
  · split
    · simp
    · split
      · simp; omega
      · simp
def risingL (ah : α → α → Bool) : List α → Bool
  | a :: b :: r => ah a b && risingL ah (b :: r)
  | _ => true
theorem risingL_iff (ah : α → α → Bool) : ∀ (l : List α), risingL ah l = true ↔ ∀ k, (h : k + 1 < l.length) → ah (l[k]'(by omega)) l[k + 1] = true
  | [] => by simp [risingL]
  | [a] => by simp [risingL]
  | a :: b :: r => by
    have ih := risingL_iff ah (b :: r)
    simp only [risingL, Bool.and_eq_true, ih]
    constructor
    · rintro ⟨h0, h⟩ k hk
      cases k with
      | zero => simpa using h0
      | succ k => have := h k (by simpa using hk); simpa using this
    · intro h
      refine ⟨by simpa using h 0 (by simp), fun k hk => ?_⟩
      have := h (k + 1) (by simpa using hk)
      simpa using this
theorem risingL_false {ah : α → α → Bool} {l : List α} {k : Nat} (h : k + 1 < l.length) (hn : ah (l[k]'(by omega)) l[k + 1] = false) : risingL ah l = false := by
  cases hr : risingL ah l with
  | false => rfl
  | true => rw [(risingL_iff ah l).1 hr k h] at hn; cases hn
end
end Go.Proofs.Ytldnponbkhgijaa
end
section
/-
  Plain mathematics of a table: a row that is put, by recursion; an order of keys.
-/
namespace Go.Proofs.Ytldnponbkhgijaa
open Go.ChangeShapes Go.WideShapes Go.ChangeAt Go.RowKit
set_option linter.unusedVariables false
set_option linter.unusedSimpArgs false
section
variable {α : Type}
/-- how a row is put, by recursion -/
def putR (ah : α → α → Bool) : List α → α → List α
  | [], x => [x]
  | a :: r, x => if ah a x then a :: putR ah r x else if ah x a then x :: a :: r else x :: r
theorem putL_eq (ah : α → α → Bool) (x : α) : ∀ l : List α, putL ah l x = putR ah l x := by
  intro l
  induction l with
  | nil => rfl
  | cons a r ih =>
    unfold putR
    by_cases h : ah a x = true
    · rw [if_pos h, ← ih]
      unfold putL
      rw [List.findIdx?_cons, h]
      simp only [Bool.not_true, Bool.false_eq_true, if_false]
      cases hf : r.findIdx? (fun y => !ah y x) with
      | none => simp
      | some k =>
        have hk : k < r.length := by rw [List.findIdx?_eq_some_iff_getElem] at hf; exact hf.1
        simp only [Option.map_some, List.getElem?_cons_succ, List.getElem?_eq_getElem hk]
        split <;> simp
    · have h' : ah a x = false := by simpa using h
      rw [if_neg h]
      unfold putL
      rw [List.findIdx?_cons, h']
      simp only [Bool.not_false, if_true, List.getElem?_cons_zero]
      split <;> simp
/-- an order of keys -/
structure Ord (ah : α → α → Bool) : Prop where
  tr : ∀ a b c, ah a b = true → ah b c = true → ah a c = true
  asy : ∀ a b, ah a b = true → ah b a = false
  cong : ∀ a x b, ah a x = false → ah x a = false → ah a b = ah x b
  cong2 : ∀ a x b, ah a x = false → ah x a = false → ah b a = ah b x
def eqv (ah : α → α → Bool) (x y : α) : Bool := !ah x y && !ah y x
theorem rising_pairwise {ah : α → α → Bool} (o : Ord ah) : ∀ l : List α, risingL ah l = true ↔ l.Pairwise (fun a b => ah a b = true)
  | [] => by simp [risingL]
  | [a] => by simp [risingL]
  | a :: b :: r => by
    have ih := rising_pairwise o (b :: r)
    simp only [risingL, Bool.and_eq_true, ih]
    constructor
    · rintro ⟨h1, h2⟩
      refine List.Pairwise.cons ?_ h2
      intro c hc
      rcases List.mem_cons.1 hc with rfl | hc
      · exact h1
      · exact o.tr _ _ _ h1 (List.rel_of_pairwise_cons h2 hc)
    · intro h
      exact ⟨List.rel_of_pairwise_cons h (by simp), h.of_cons⟩
theorem set_putR {ah : α → α → Bool} (o : Ord ah) (x : α) : ∀ (l : List α) (k : Nat) (hk : k < l.length), l.Pairwise (fun a b => ah a b = true) → ah l[k] x = false → ah x l[k] = false → l.set k x = putR ah l x := by
  intro l
  induction l with
  | nil => intro k hk; simp at hk
  | cons a r ih =>
    intro k hk hp h1 h2
    cases k with
    | zero =>
      simp only [List.getElem_cons_zero] at h1 h2
      simp [putR, h1, h2]
    | succ k =>
      simp only [List.getElem_cons_succ] at h1 h2
      have hk' : k < r.length := by simpa using hk
      have hax : ah a x = true := by
        rw [← o.cong2 r[k] x a h1 h2]
        exact List.rel_of_pairwise_cons hp (List.getElem_mem hk')
      rw [List.set_cons_succ, ih k hk' hp.of_cons h1 h2]
      simp [putR, hax]
theorem mem_putR {ah : α → α → Bool} (x : α) : ∀ (l : List α) (y : α), y ∈ putR ah l x → y = x ∨ y ∈ l
  | [], y, h => by simp [putR] at h; exact .inl h
  | a :: r, y, h => by
    unfold putR at h
    split at h
    · rcases List.mem_cons.1 h with h | h
      · exact .inr (by simp [h])
      · rcases mem_putR x r y h with h | h
        · exact .inl h
        · exact .inr (by simp [h])
    · split at h
      · rcases List.mem_cons.1 h with h | h
        · exact .inl h
        · exact .inr h
      · rcases List.mem_cons.1 h with h | h
        · exact .inl h
        · exact .inr (by simp [h])
theorem pairwise_putR {ah : α → α → Bool} (o : Ord ah) (x : α) : ∀ (l : List α), l.Pairwise (fun a b => ah a b = true) → (putR ah l x).Pairwise (fun a b => ah a b = true)
  | [], _ => by simp [putR]
  | a :: r, hp => by
    have ha : ∀ b ∈ r, ah a b = true := fun b hb => List.rel_of_pairwise_cons hp hb
    unfold putR
    by_cases h : ah a x = true
    · rw [if_pos h]
      refine List.Pairwise.cons (fun b hb => ?_) (pairwise_putR o x r hp.of_cons)
      rcases mem_putR x r b hb with rfl | hb
      · exact h
      · exact ha b hb
    · rw [if_neg h]
      have h' : ah a x = false := by simpa using h
      by_cases h2 : ah x a = true
      · rw [if_pos h2]
        refine List.Pairwise.cons (fun b hb => ?_) hp
        rcases List.mem_cons.1 hb with rfl | hb
        · exact h2
        · exact o.tr _ _ _ h2 (ha b hb)
      · rw [if_neg h2]
        have h2' : ah x a = false := by simpa using h2
        exact List.Pairwise.cons (fun b hb => by rw [← o.cong a x b h' h2']; exact ha b hb) hp.of_cons
theorem length_putR {ah : α → α → Bool} (x : α) : ∀ (l : List α), (putR ah l x).length ≤ l.length + 1
  | [] => by simp [putR]
  | a :: r => by
    have := length_putR (ah := ah) x r
    unfold putR
    split
    · simp; omega
    · split <;> simp
def refPut (ah : α → α → Bool) (l : List α) (x : α) : List α :=
  (l.filter fun y => !eqv ah x y).take ((l.filter fun y => !eqv ah x y).findIdx fun y => !ah y x) ++ x :: (l.filter fun y => !eqv ah x y).drop ((l.filter fun y => !eqv ah x y).findIdx fun y => !ah y x)
theorem refPut_eq {ah : α → α → Bool} (o : Ord ah) (x : α) : ∀ l : List α, l.Pairwise (fun a b => ah a b = true) → refPut ah l x = putR ah l x := by
  intro l
  induction l with
  | nil => intro _; simp [refPut, putR]
  | cons a r ih =>
    intro hp
    have hr := hp.of_cons
    have ha : ∀ b ∈ r, ah a b = true := fun b hb => List.rel_of_pairwise_cons hp hb
    unfold putR
    by_cases h : ah a x = true
    · rw [if_pos h, ← ih hr]
      have h2 := o.asy _ _ h
      unfold refPut
      rw [List.filter_cons]
      have he : eqv ah x a = false := by simp [eqv, h]
      simp only [he, Bool.not_false, if_true, List.findIdx_cons, h, Bool.not_true, cond_false, List.take_succ_cons, List.drop_succ_cons, List.cons_append]
    · have h' : ah a x = false := by simpa using h
      rw [if_neg h]
      have hall : ∀ b ∈ r, ah x b = true → eqv ah x b = false ∧ ah b x = false := fun b hb hxb => ⟨by simp [eqv, hxb], o.asy _ _ hxb⟩
      by_cases h2 : ah x a = true
      · rw [if_pos h2]
        have hf : (a :: r).filter (fun y => !eqv ah x y) = a :: r := by
          rw [List.filter_eq_self]
          intro b hb
          rcases List.mem_cons.1 hb with rfl | hb
          · simp [eqv, h2]
          · simp [eqv, o.tr _ _ _ h2 (ha b hb)]
        unfold refPut
        rw [hf, List.findIdx_cons, h']
        simp
      · have h2' : ah x a = false := by simpa using h2
        rw [if_neg h2]
        have hx : ∀ b ∈ r, ah x b = true := fun b hb => by rw [← o.cong a x b h' h2']; exact ha b hb
        have hf : (a :: r).filter (fun y => !eqv ah x y) = r := by
          rw [List.filter_cons]
          have he : eqv ah x a = true := by simp [eqv, h', h2']
          simp only [he, Bool.not_true, Bool.false_eq_true, if_false]
          rw [List.filter_eq_self]
          intro b hb
          simp [eqv, hx b hb]
        unfold refPut
        rw [hf]
        cases r with
        | nil => simp
        | cons b s =>
          rw [List.findIdx_cons, o.asy _ _ (hx b (by simp))]
          simp
end
/-- a slice of structs that came in -/
theorem rd_rows {α : Type} {w : World} {f : α → List Value} {s : Shape} {A : Option Addr} {n c : Nat} (hf : ∀ r, Rd w s r → ∃ g, r = f g) (h : Rd w (.sl s) [.slice A n c]) :
    ∃ l : List α, l.length = n ∧ n ≤ c ∧ c ≤ maxLen ∧ Sl w A (rc f l) := by
  obtain ⟨A', n', c', rows, e, h1, h2, h3, h4, h5⟩ := h
  simp only [List.cons.injEq, Value.slice.injEq, and_true] at e
  obtain ⟨rfl, rfl, rfl⟩ := e
  have key : ∀ rows : List (List Value), (∀ r ∈ rows, Rd w s r) → ∃ l : List α, l.length = rows.length ∧ rows.flatten = rc f l := by
    intro rows
    induction rows with
    | nil => intro _; exact ⟨[], rfl, rfl⟩
    | cons r rows ih =>
      intro h
      obtain ⟨l, a1, a2⟩ := ih (fun x hx => h x (by simp [hx]))
      obtain ⟨x, rfl⟩ := hf r (h r (by simp))
      exact ⟨x :: l, by simp [a1], by simp [a2, rc]⟩
  obtain ⟨l, a1, a2⟩ := key rows h5
  rw [a2] at h4
  exact ⟨l, by omega, h1, h2, h4⟩
/-- a unit that came in -/
theorem rd_two {w : World} {a : Array Value} (h : Rd w (.cat (.int .i64) (.cat (.int .i64) .nil)) a.toList) : ∃ x y : Int, a = #[.int .i64 x, .int .i64 y] := by
  obtain ⟨p, q, e, ⟨x, rfl, _⟩, ⟨p2, q2, e2, ⟨y, rfl, _⟩, e3⟩⟩ := h
  subst e3
  subst e2
  refine ⟨x, y, ?_⟩
  cases a
  simpa using e
end Go.Proofs.Ytldnponbkhgijaa
end
