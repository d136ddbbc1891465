import Derived.Below
import Derived.BigQuiet
import Derived.ChangeOld
import Derived.Deep.DeepFit
import Derived.Deep.QuietTactic
import Derived.Laws.AppendOwnNone
import Derived.Laws.CopyOwn
import Derived.Lib.Hide
import Derived.Maps.AppendAt
import Derived.OpenShut
import Derived.Outline
import Derived.ProofKit
import Derived.ShutString
import Derived.Test.YtldnponbkhgijaaDoorRows
import Derived.WalkKit
import Derived.WalkLawsBesides
import Derived.WalkSpells
import Derived.Deep.Slices
import Derived.Laws.NewBlocks
import Derived.Lib.AppendZerosOnto
import Derived.Lib.Overlaps
import Derived.Deep.RegionLaw
import Derived.Lib.SliceRun
section
namespace Go.Proofs.YtldnponbkhgijaaDoor
open Go.ChangeShapes Go.WideShapes Go.ChangeAt Go.RowKit
set_option linter.unusedVariables false

theorem addr_add (b o i : Nat) : (⟨b, o, none⟩ : Addr).add i = ⟨b, o + i, none⟩ := by
  unfold Addr.add
  by_cases h : i = 0 <;> simp [h]
def Sl (w : World) (A : Option Addr) (xs : List Value) : Prop :=
  xs ≠ [] → ∃ b o, A = some ⟨b, o, none⟩ ∧ ∀ j u, xs[j]? = some u → w.cell? ⟨b, o + j, none⟩ = some u
section
variable {w w' : World} {A : Option Addr} {xs : List Value}
theorem Sl.nil : Sl w A [] := fun h => absurd rfl h
theorem Sl.at_ (h : Sl w A xs) {j : Nat} (hj : j < xs.length) : ∃ b o, A = some ⟨b, o, none⟩ ∧ w.cell? ⟨b, o + j, none⟩ = some xs[j] := by
  obtain ⟨b, o, hA, hc⟩ := h (by intro e; subst e; simp at hj)
  exact ⟨b, o, hA, hc j _ (List.getElem?_eq_getElem hj)⟩
theorem Sl.keep (h : Sl w A xs) (hk : ∀ p : Addr, p.block < w.heap.size → w'.cell? p = w.cell? p) : Sl w' A xs := by
  intro hne
  obtain ⟨b, o, hA, hc⟩ := h hne
  refine ⟨b, o, hA, fun j u hu => ?_⟩
  have := hc j u hu
  rw [hk _ (World.block_lt_of_cell? w _ this)]
  exact this
theorem Sl.below (h : Sl w A xs) (hb : Below w.heap.size w w') : Sl w' A xs := h.keep fun _ hp => hb.cell hp
theorem Sl.alloc (h : Sl w A xs) (o : Obj) : Sl (w.alloc o) A xs := h.keep fun p hp => World.cell?_alloc_lt w o p hp
theorem Sl.drew (h : Sl w A xs) : Sl w.drew A xs := h
theorem Sl.drewN (h : Sl w A xs) (n : Nat) : Sl (w.drewN n) A xs := h
theorem Sl.take (h : Sl w A xs) (n : Nat) : Sl w A (xs.take n) := by
  intro hne
  obtain ⟨b, o, hA, hc⟩ := h (by rintro rfl; simp at hne)
  refine ⟨b, o, hA, fun j u hu => hc j u ?_⟩
  rw [List.getElem?_take] at hu
  split at hu
  · exact hu
  · cases hu
theorem Sl.row (h : Sl w A xs) {b o : Nat} (hA : A = some ⟨b, o, none⟩) : ∀ j u, xs[j]? = some u → w.cell? ((⟨b, o, none⟩ : Addr).add j) = some u := by
  intro j u hu
  rw [addr_add]
  by_cases hne : xs = []
  · subst hne; simp at hu
  · obtain ⟨b', o', hA', hc⟩ := h hne
    rw [hA] at hA'
    injection hA' with hA'
    injection hA' with h1 h2
    subst h1; subst h2
    exact hc j u hu
theorem Sl.of_own {base : Nat} {e : TypeId} {size n c : Nat} (h : w.ownsRow base e size (.slice A n c) n xs) : Sl w A xs := by
  intro hne
  rcases h.2 with ⟨_, hn⟩ | ⟨g, cap, cur, hv, _, hg, _, _, _, ht⟩
  · exact absurd (List.eq_nil_of_length_eq_zero (by rw [h.1, hn, Nat.zero_mul])) hne
  · have hA : A = some ⟨g, 0, none⟩ := by injection hv
    subst hA
    refine ⟨g, 0, rfl, fun j u hu => ?_⟩
    rw [Nat.zero_add, cell_of_row w g j cur e (0, 0) hg]
    rw [← ht, List.getElem?_take] at hu
    split at hu
    · simpa using hu
    · cases hu
theorem Sl.far {p : Addr} (h : Sl w A xs) (hp : ∀ b o, A = some ⟨b, o, none⟩ → b ≠ p.block) (v : Value) : Sl (w.setCell p v) A xs := by
  intro hne
  obtain ⟨b, o, hA, hc⟩ := h hne
  refine ⟨b, o, hA, fun j u hu => ?_⟩
  rw [World.cell?_setCell_other w _ _ _ (by intro e; exact hp b o hA (by rw [e]))]
  exact hc j u hu
theorem below_drewN {B : Nat} {a w : World} (h : Below B a w) (n : Nat) : Below B a (w.drewN n) := ⟨h.os, h.tape, h.output, h.size, h.block⟩
end

def by8 (l : List Nat) : List Value := l.map fun (n : Nat) => Value.int .u8 (n : Int)
theorem by8_length (l : List Nat) : (by8 l).length = l.length := by simp [by8]
def Oct (l : List Nat) : Prop := ∀ x ∈ l, x < 256
theorem Oct.take {l : List Nat} (h : Oct l) (n : Nat) : Oct (l.take n) := fun x hx => h x (List.mem_of_mem_take hx)
theorem Oct.app {a b : List Nat} (h : Oct a) (k : Oct b) : Oct (a ++ b) := fun x hx => by
  rcases List.mem_append.1 hx with h' | h'
  · exact h x h'
  · exact k x h'
theorem Oct.at_ {l : List Nat} (h : Oct l) {k : Nat} (hk : k < l.length) : l[k] < 256 := h _ (List.getElem_mem hk)
theorem Sl.byte {w : World} {A : Option Addr} {l : List Nat} (h : Sl w A (by8 l)) {j : Nat} (hj : j < l.length) :
    ∃ b o, A = some ⟨b, o, none⟩ ∧ w.cell? ⟨b, o + j, none⟩ = some (.int .u8 (l[j] : Int)) := by
  obtain ⟨b, o, hA, hc⟩ := h.at_ (j := j) (by rw [by8_length]; exact hj)
  exact ⟨b, o, hA, by simpa [by8] using hc⟩
theorem take_snoc {α : Type} (l : List α) (k : Nat) (h : k < l.length) : l.take (k + 1) = l.take k ++ [l[k]] := by
  rw [List.take_succ_eq_append_getElem h]
def Bk (w : World) (g : Nat) (cs : Array Value) : Prop := g < w.heap.size ∧ ∀ o, w.cell? ⟨g, o, none⟩ = cs[o]?
section
variable {w w' : World} {g : Nat} {cs : Array Value}
theorem Bk.new (w : World) (cs : Array Value) (t : TypeId) : Bk (w.alloc (.cells cs t)) w.heap.size cs := ⟨by simp, fun o => World.cell?_alloc_new w cs t o⟩
theorem Bk.below (h : Bk w g cs) (hb : Below w.heap.size w w') : Bk w' g cs := ⟨Nat.lt_of_lt_of_le h.1 hb.size, fun o => (hb.cell (p := ⟨g, o, none⟩) h.1).trans (h.2 o)⟩
theorem Bk.alloc (h : Bk w g cs) (o : Obj) : Bk (w.alloc o) g cs := h.below ((Below.refl _ _).alloc (Nat.le_refl _) o)
theorem Bk.drew (h : Bk w g cs) : Bk w.drew g cs := h
theorem Bk.drewN (h : Bk w g cs) (n : Nat) : Bk (w.drewN n) g cs := h
end
theorem since_step {W0 W W' : World} (h : Below W0.heap.size W0 W) (k : Below W.heap.size W W') : Below W0.heap.size W0 W' := h.trans (k.mono h.size)
theorem since_alloc {W0 W : World} (h : Below W0.heap.size W0 W) (o : Obj) : Below W0.heap.size W0 (W.alloc o) := h.alloc h.size o
theorem cell_set (w : World) (a b : Addr) (v : Value) : (w.setCell a v).cell? b = if a = b then (w.cell? a).map (fun _ => v) else w.cell? b := by
  by_cases h : a = b
  · subst h
    rw [if_pos rfl]
    cases hc : w.cell? a with
    | some u => exact World.cell?_setCell_same w a v hc
    | none =>
      simp only [Option.map_none]
      unfold World.cell? World.setCell at *
      simp only [Array.getElem?_modify] at *
      cases hh : w.heap[a.block]? with
      | none => simp
      | some o =>
        rw [hh] at hc
        cases o with
        | cells c e f =>
          simp only at hc
          simp
          intro hs
          rcases Nat.lt_or_ge a.off c.size with h1 | h1
          · rw [hs, Array.getElem?_eq_getElem h1] at hc; simp at hc
          · split
            · exact h1
            · simpa using h1
        | _ => simp
  · rw [if_neg h]
    exact World.cell?_setCell_other w a b v h
theorem retI {k : IntKind} {a b : Int} (h : a = b) : Ending.returned (.int k a) = .returned (.int k b) := by rw [h]
theorem retB {a b : Bool} (h : a = b) : Ending.returned (.bool a) = .returned (.bool b) := by rw [h]
def IsRow (k : IntKind) (w : World) (a : Option Addr) (len cap : Nat) (zs : List Int) : Prop :=
  (a = none ∧ len = 0 ∧ cap = 0 ∧ zs = []) ∨
  ∃ x, a = some x ∧ len ≤ cap ∧ cap ≤ maxLen ∧ zs.length = cap ∧ (∀ i, i < zs.length → w.cell? (x.add i) = some (.int k (zs.getD i 0))) ∧ ∀ n ∈ zs, (Lit.int k n).wf = true
def ints (k : IntKind) (l : List Int) : List Value := l.map fun n => Value.int k n
theorem ints_length (k : IntKind) (l : List Int) : (ints k l).length = l.length := by simp [ints]
theorem Sl.int {w : World} {A : Option Addr} {k : IntKind} {l : List Int} (h : Sl w A (ints k l)) {j : Nat} (hj : j < l.length) :
    ∃ b o, A = some ⟨b, o, none⟩ ∧ w.cell? ⟨b, o + j, none⟩ = some (.int k l[j]) := by
  obtain ⟨b, o, hA, hc⟩ := h.at_ (j := j) (by rw [ints_length]; exact hj)
  exact ⟨b, o, hA, by simpa [ints] using hc⟩
theorem IsRow.ints {k : IntKind} {w : World} {a : Option Addr} {len cap : Nat} {zs : List Int} (h : IsRow k w a len cap zs) :
    ∃ l : List Int, l.length = len ∧ len ≤ cap ∧ cap ≤ maxLen ∧ Sl w a (ints k l) ∧ ∀ n ∈ l, (Lit.int k n).wf = true := by
  rcases h with ⟨rfl, rfl, rfl, rfl⟩ | ⟨x, rfl, hl, hm, hz, hcell, hwf⟩
  · exact ⟨[], rfl, Nat.le_refl _, by decide, Sl.nil, fun n hn => by cases hn⟩
  · refine ⟨zs.take len, by simp; omega, hl, hm, ?_, fun n hn => hwf n (List.mem_of_mem_take hn)⟩
    intro hne
    have h0 : 0 < len := by
      rcases Nat.eq_zero_or_pos len with h | h
      · subst h; simp [Go.Proofs.YtldnponbkhgijaaDoor.ints] at hne
      · exact h
    obtain ⟨b, o, spot⟩ := x
    have hc := hcell 0 (by omega)
    have hspot : spot = none := by simpa [Addr.add] using World.cell?_spot hc
    subst hspot
    refine ⟨b, o, rfl, fun j u hu => ?_⟩
    simp only [Go.Proofs.YtldnponbkhgijaaDoor.ints, List.getElem?_map, List.getElem?_take] at hu
    by_cases hj : j < len
    · rw [if_pos hj] at hu
      have hjz : j < zs.length := by omega
      have := hcell j hjz
      rw [addr_add] at this
      rw [this]
      rw [List.getElem?_eq_getElem hjz] at hu
      rw [List.getD_eq_getElem?_getD, List.getElem?_eq_getElem hjz]
      simpa using hu
    · rw [if_neg hj] at hu
      simp at hu
theorem IsRow.bytes {w : World} {a : Option Addr} {len cap : Nat} {zs : List Int} (h : IsRow .u8 w a len cap zs) :
    ∃ l : List Nat, l.length = len ∧ len ≤ cap ∧ cap ≤ maxLen ∧ Sl w a (by8 l) ∧ Oct l := by
  obtain ⟨l, hl, hc, hm, hs, hw⟩ := h.ints
  have hb : ∀ n ∈ l, 0 ≤ n ∧ n ≤ 255 := fun n hn => by simpa [Lit.wf, IntKind.min, IntKind.max, IntKind.signed, IntKind.bits] using hw n hn
  have e : by8 (l.map Int.toNat) = Go.Proofs.YtldnponbkhgijaaDoor.ints .u8 l := by
    simp only [by8, Go.Proofs.YtldnponbkhgijaaDoor.ints, List.map_map]
    apply List.map_congr_left
    intro n hn
    have := hb n hn
    show Value.int .u8 (n.toNat : Int) = _
    rw [Int.toNat_of_nonneg this.1]
  refine ⟨l.map Int.toNat, by simpa using hl, hc, hm, by rw [e]; exact hs, ?_⟩
  intro x hx
  simp at hx
  obtain ⟨n, hn, rfl⟩ := hx
  have := hb n hn
  omega
theorem bd_i64 {a : Int} (h : (Lit.int .i64 a).wf = true) : -9223372036854775808 ≤ a ∧ a ≤ 9223372036854775807 := by
  simpa [Lit.wf, IntKind.min, IntKind.max, IntKind.signed, IntKind.bits] using h
structure Elem (P : Program) (t e : TypeId) (size bytes : Nat) : Prop where
  und : P.underlying t = some (.slice e)
  info : ∃ (i : TypeInfo) (z : Value), P.info? e = some i ∧ i.zero = some z ∧ i.size = size ∧ i.bytes = bytes ∧ z.cells.size = size
  pos : 0 < size
theorem Elem.mk' {P : Program} {t e : TypeId} {size bytes : Nat} {z : Value} (h1 : P.underlying t = some (.slice e)) (h2 : (P.info? e).map (fun i => (i.zero, i.size, i.bytes)) = some (some z, size, bytes))
    (h3 : z.cells.size = size) (h4 : 0 < size) : Elem P t e size bytes := by
  obtain ⟨i, a, b, c, d⟩ := info_parts h2
  exact ⟨h1, ⟨i, z, a, b, c, d, h3⟩, h4⟩
section
variable {P : Program} {w : World}
theorem own_nil (base : Nat) (e : TypeId) (size : Nat) : w.ownsRow base e size (.slice none 0 0) 0 [] := ⟨by simp, .inl ⟨rfl, rfl⟩⟩
theorem own_ge {base : Nat} {e : TypeId} {size n : Nat} {v : Value} {xs : List Value} (h : w.ownsRow base e size v n xs) : ∀ k, v.ownBlock = some k → base ≤ k := by
  intro k hk
  rcases h.2 with ⟨rfl, _⟩ | ⟨g, cap, cur, rfl, hg, _⟩
  · simp [Value.ownBlock] at hk
  · simp [Value.ownBlock] at hk
    omega
theorem below_of_grown {base : Nat} {w' : World} {row : Option Nat} (hg : w.grownBy w' row) (hB : base ≤ w.heap.size) (hr : ∀ k, row = some k → base ≤ k) : Below base w w' :=
  (Below.refl base w).grown hg hB hr
theorem own_form {base : Nat} {e : TypeId} {size n : Nat} {v : Value} {xs : List Value} (h : w.ownsRow base e size v n xs) : ∃ A c, v = .slice A n c := by
  rcases h.2 with ⟨rfl, rfl⟩ | ⟨g, cap, cur, rfl, _⟩
  · exact ⟨_, _, rfl⟩
  · exact ⟨_, _, rfl⟩
theorem own_at {base : Nat} {e : TypeId} {size n c : Nat} {A : Option Addr} {xs : List Value} (h : w.ownsRow base e size (.slice A n c) n xs) (hn : 0 < n) :
    ∃ g, A = some ⟨g, 0, none⟩ ∧ base ≤ g ∧ g < w.heap.size ∧ ∀ i, w.frozen? ⟨g, i, none⟩ = false := by
  rcases h.2 with ⟨_, h0⟩ | ⟨g, cap, cur, hv, hg, hh, _⟩
  · omega
  · injection hv with e1
    subst e1
    refine ⟨g, rfl, hg, ?_, fun i => by simp [World.frozen?, hh]⟩
    rcases Nat.lt_or_ge g w.heap.size with hlt | hge
    · exact hlt
    · rw [Array.getElem?_eq_none hge] at hh; cases hh
theorem Sl.newMark (w : World) (cs : List Value) (e : TypeId) (fr : Nat × Nat) : Sl (w.alloc (.cells cs.toArray e fr)) (some ⟨w.heap.size, 0, none⟩) cs := by
  intro _
  refine ⟨_, _, rfl, fun j u hu => ?_⟩
  rw [Nat.zero_add, World.cell?_alloc_mark]
  simpa using hu
theorem Sl.new_ (w : World) (cs : List Value) (e : TypeId) : Sl (w.alloc (.cells cs.toArray e)) (some ⟨w.heap.size, 0, none⟩) cs := Sl.newMark w cs e _
theorem Sl.new1 (w : World) (o : Obj) (cs : List Value) (e : TypeId) : Sl ((w.alloc o).alloc (.cells cs.toArray e)) (some ⟨w.heap.size + 1, 0, none⟩) cs := by
  have := Sl.new_ (w.alloc o) cs e
  rwa [World.size_alloc] at this
theorem run_app {t ty e : TypeId} {size bytes : Nat} (E : Elem P t e size bytes) {base n m c d : Nat} {A B : Option Addr} {xs news : List Value}
    (hown : w.ownsRow base e size (.slice A n c) n xs) (hl : news.length = m * size) (hr : Sl w B news) (h1 : ∀ u ∈ news, u.oneCell' = true)
    (h63 : n + m ≤ maxLen) (hb : (n + m) * bytes ≤ 140737488355328) (hbase : base ≤ w.heap.size) :
    ∃ A' c' w', (Builtin.append_ #[t, t] ty #[.slice A n c, .slice B m d]).run P w = .ok (.slice A' (n + m) c') w' ∧ w'.ownsRow base e size (.slice A' (n + m) c') (n + m) (xs ++ news) ∧
      w.grownBy w' (Value.slice A n c).ownBlock ∧ Below base w w' := by
  obtain ⟨i, z, hi, hz, hsize, hby, hzs⟩ := E.info
  by_cases hm : m = 0
  · subst hm
    have hn : news = [] := List.eq_nil_of_length_eq_zero (by simpa using hl)
    subst hn
    rcases hB : B with _ | ad
    · refine ⟨A, c, w, ?_, by simpa using hown, World.grownBy.refl w _, Below.refl _ _⟩
      rcases hown.2 with ⟨hv, h0⟩ | ⟨g, cap, cur, hv, _, _, hnc, _⟩
      · rw [hv]
        subst h0
        injection hv with a1 a2 a3
        subst a1; subst a3
        simp [Builtin.append_, run_underlying E.und, sizeOf, typeInfo, hi, Builtin.lenOf, Builtin.firstCells]
      · injection hv with a1 a2 a3
        subst a1; subst a3
        simp [Builtin.append_, run_underlying E.und, sizeOf, typeInfo, hi, Builtin.lenOf, Builtin.firstCells, hnc, storeCells]
    · obtain ⟨v', w', hrun, h2, h3, _, h5⟩ := run_append_own_at (P := P) w base t ty e i z size bytes E.und hi hz hsize hby hzs E.pos _ n xs hown ad 0 d [] (by simp) (by simp) (by simp) h63 hb hbase
      obtain ⟨A', c', rfl⟩ := own_form h2
      exact ⟨A', c', w', hrun, h2, h3, below_of_grown h3 hbase (own_ge hown)⟩
  · have hne : news ≠ [] := by
      intro h0
      rw [h0, List.length_nil] at hl
      rcases Nat.mul_eq_zero.1 hl.symm with h | h
      · exact hm h
      · have := E.pos; omega
    obtain ⟨b, o, rfl, hc⟩ := hr hne
    obtain ⟨v', w', hrun, h2, h3, _, h5⟩ := run_append_own_at (P := P) w base t ty e i z size bytes E.und hi hz hsize hby hzs E.pos _ n xs hown ⟨b, o, none⟩ m d news hl
      (fun j u hu => by rw [addr_add]; exact hc j u hu) h1 h63 hb hbase
    obtain ⟨A', c', rfl⟩ := own_form h2
    exact ⟨A', c', w', hrun, h2, h3, below_of_grown h3 hbase (own_ge hown)⟩
theorem wp_app {o : Oper} {a : Act} {K : Act → World → Prop} {Q : Exit → Act → World → Prop} (s x : Operand) {t e : TypeId} {size bytes : Nat}
    (ho : o.op = .call { callee := .builtin .append, args := #[s, x], argTypes := #[t, t] }) (E : Elem P t e size bytes) {base n m c d : Nat} {A B : Option Addr} {xs news : List Value}
    (hs : a.eval s = .slice A n c) (hx : a.eval x = .slice B m d)
    (hown : w.ownsRow base e size (.slice A n c) n xs) (hl : news.length = m * size) (hr : Sl w B news) (h1 : ∀ u ∈ news, u.oneCell' = true)
    (h63 : n + m ≤ maxLen) (hb : (n + m) * bytes ≤ 140737488355328) (hbase : base ≤ w.heap.size)
    (h : ∀ A' c' w', w'.ownsRow base e size (.slice A' (n + m) c') (n + m) (xs ++ news) → w.grownBy w' (Value.slice A n c).ownBlock → Below base w w' → K (a.put o.dst (.slice A' (n + m) c')) w') : o.wp P a w K Q := by
  obtain ⟨A', c', w', hrun, h2, h3, h4⟩ := run_app (P := P) (w := w) (ty := o.type) E (d := d) hown hl hr h1 h63 hb hbase
  unfold Oper.wp execOp
  simp only [ho, resolve, invoke, builtin, Sem.run_bind, Sem.run_pure, Result.andThen_ok, List.map_toArray, List.map_cons, List.map_nil, hs, hx, hrun]
  exact h A' c' w' h2 h3 h4
theorem wpList_app {ops : Array Oper} {rest : List Oper} {o : Oper} {a : Act} {Q : Exit → Act → World → Prop} (hgd : o.guard = none) (s x : Operand) {t e : TypeId} {size bytes : Nat}
    (ho : o.op = .call { callee := .builtin .append, args := #[s, x], argTypes := #[t, t] }) (E : Elem P t e size bytes) {base n m c d : Nat} {A B : Option Addr} {xs news : List Value}
    (hs : a.eval s = .slice A n c) (hx : a.eval x = .slice B m d)
    (hown : w.ownsRow base e size (.slice A n c) n xs) (hl : news.length = m * size) (hr : Sl w B news) (h1 : ∀ u ∈ news, u.oneCell' = true)
    (h63 : n + m ≤ maxLen) (hb : (n + m) * bytes ≤ 140737488355328) (hbase : base ≤ w.heap.size)
    (h : ∀ A' c' w', w'.ownsRow base e size (.slice A' (n + m) c') (n + m) (xs ++ news) → w.grownBy w' (Value.slice A n c).ownBlock → Below base w w' → wpList P ops Q rest (a.put o.dst (.slice A' (n + m) c')) w') :
    wpList P ops Q (o :: rest) a w :=
  wpList_plain hgd fun _ hK => wp_app s x ho E hs hx hown hl hr h1 h63 hb hbase fun A' c' w' h2 h3 h4 => hK _ _ (h A' c' w' h2 h3 h4)
end

section
variable {P : Program} {w : World}
theorem wpList_mk {ops : Array Oper} {rest : List Oper} {o : Oper} {a : Act} {Q : Exit → Act → World → Prop} (hg : o.guard = none) (l c : Operand) {t e : TypeId} {size bytes : Nat} (hop : o.op = Op.makeSlice t l c)
    (E : Elem P t e size bytes) (n : Nat) {kl kc : IntKind} {C : Int} (hl : a.eval l = .int kl 0) (hc : a.eval c = .int kc C) (hC : C = (n : Int)) (b2 : bytes * n ≤ 281474976710656) (b3 : n ≤ maxLen)
    {base : Nat} (b4 : base ≤ w.heap.size)
    (h : ∀ w', w'.ownsRow base e size (.slice (some ⟨w.heap.size, 0, none⟩) 0 n) 0 [] → Below w.heap.size w w' → wpList P ops Q rest (a.put o.dst (.slice (some ⟨w.heap.size, 0, none⟩) 0 n)) w') :
    wpList P ops Q (o :: rest) a w := by
  obtain ⟨i, z, hi, hz, hsize, hby, hzs⟩ := E.info
  exact wpList_make_own w hg l c t hop base e i z size E.und hi hz hsize kl kc C n hl hc hC (by rw [hby]; exact b2) b3 b4 fun w' h1 h2 => h w' h1 (below_of_grown h2 (Nat.le_refl _) (by simp))
end

theorem own : ownKnob Tryd.prog.godebug = none := by kernel_rfl
theorem laidOut : laidOutB Tryd.prog = true := by kernel_rfl
end Go.Proofs.YtldnponbkhgijaaDoor
end
section
namespace Go.Proofs.YtldnponbkhgijaaDoor
open Go.ChangeShapes Go.WideShapes Go.ChangeAt Go.RowKit
set_option linter.unusedVariables false

inductive Shape where
  | int (k : IntKind)
  | bool
  | str
  | sl (s : Shape)
  | cat (a b : Shape)
  | nil
def Shape.size : Shape → Nat
  | .int _ => 1
  | .bool => 1
  | .str => 1
  | .sl _ => 1
  | .cat a b => a.size + b.size
  | .nil => 0
def fieldsShape (P : Program) (f : TypeId → Option Shape) : List Field → Nat → Option Shape
  | [], _ => some .nil
  | x :: r, off =>
    match f x.type with
    | some s =>
      if x.offset = off ∧ P.cellsOf x.type = s.size then
        match fieldsShape P f r (off + s.size) with
        | some q => some (.cat s q)
        | none => none
      else none
    | none => none
def shapeOf (P : Program) : Nat → TypeId → Option Shape
  | 0, _ => none
  | n + 1, t =>
    match P.underlying t with
    | some (.int k) => some (.int k)
    | some .bool => some .bool
    | some .string => some .str
    | some (.slice e) =>
      match shapeOf P n e with
      | some s => if P.cellsOf e = s.size then some (.sl s) else none
      | none => none
    | some (.struct fs) =>
      match fieldsShape P (shapeOf P n) fs.toList 0 with
      | some s => if P.cellsOf t = s.size then some s else none
      | none => none
    | _ => none
def Rd (w : World) : Shape → List Value → Prop
  | .int k, cs => ∃ n, cs = [.int k n] ∧ (Lit.int k n).wf = true
  | .bool, cs => ∃ b, cs = [.bool b]
  | .str, cs => ∃ s, cs = [.string s] ∧ s.size ≤ maxLen
  | .sl s, cs => ∃ (A : Option Addr) (n c : Nat) (rows : List (List Value)), cs = [.slice A n c] ∧ n ≤ c ∧ c ≤ maxLen ∧ rows.length = n ∧ Sl w A rows.flatten ∧ ∀ r ∈ rows, Rd w s r
  | .cat a b, cs => ∃ x y, cs = x ++ y ∧ Rd w a x ∧ Rd w b y
  | .nil, cs => cs = []
theorem flatten_at {α : Type} (k : Nat) : ∀ (rows : List (List α)), (∀ r ∈ rows, r.length = k) → ∀ j u, rows.flatten[j]? = some u → ∃ i r, i < rows.length ∧ r < k ∧ j = i * k + r ∧ ∃ row, rows[i]? = some row ∧ row[r]? = some u := by
  intro rows
  induction rows with
  | nil => intro _ j u h; simp at h
  | cons a l ih =>
    intro hk j u h
    have ha := hk a (by simp)
    rw [List.flatten_cons] at h
    by_cases hj : j < a.length
    · rw [List.getElem?_append_left hj] at h
      exact ⟨0, j, by simp, by omega, by omega, a, by simp, h⟩
    · rw [List.getElem?_append_right (by omega)] at h
      obtain ⟨i, r, hi, hr, he, row, h1, h2⟩ := ih (fun x hx => hk x (by simp [hx])) _ _ h
      refine ⟨i + 1, r, by simp; omega, hr, ?_, row, by simpa using h1, h2⟩
      rw [Nat.add_mul]
      omega
section
variable {H : Type} {enc : TypeId × Value → H} {P : Program} {w : World} {base : Nat} {spare : Nat → Bool} {held : Bool}

theorem fields_rd (f : TypeId → Option Shape) (hf : ∀ t s, f t = some s → ∀ fuel cs x, DataW.trod enc P w base spare held fuel t cs = some x → Rd w s cs ∧ cs.length = s.size)
    (m : Nat) (cs : List Value) : ∀ (l : List Field) (off : Nat) (s : Shape), fieldsShape P f l off = some s → off + s.size ≤ cs.length →
      (∀ x ∈ l, ∃ y, DataW.trod enc P w base spare held m x.type ((cs.drop x.offset).take (P.cellsOf x.type)) = some y) → Rd w s ((cs.drop off).take s.size) := by
  intro l
  induction l with
  | nil =>
    intro off s h _ _
    simp only [fieldsShape, Option.some.injEq] at h
    subst h
    simp [Rd, Shape.size]
  | cons x r ih =>
    intro off s h hlen hx
    simp only [fieldsShape] at h
    split at h
    · rename_i sx hsx
      split at h
      · rename_i hc
        split at h
        · rename_i q hq
          simp only [Option.some.injEq] at h
          subst h
          simp only [Shape.size] at hlen ⊢
          obtain ⟨y, hy⟩ := hx x (by simp)
          rw [hc.1, hc.2] at hy
          have h1 := (hf _ _ hsx _ _ _ hy).1
          have h2 := ih (off + sx.size) q hq (by omega) (fun z hz => hx z (by simp [hz]))
          refine ⟨_, _, ?_, h1, h2⟩
          rw [List.take_add, List.drop_drop]
        · cases h
      · cases h
    · cases h
theorem trod_shape : ∀ (n : Nat) (t : TypeId) (s : Shape), shapeOf P n t = some s → ∀ (fuel : Nat) (cs : List Value) (x : DataW H × List MemPlace), DataW.trod enc P w base spare held fuel t cs = some x → Rd w s cs ∧ cs.length = s.size := by
  intro n
  induction n with
  | zero => intro t s h; simp [shapeOf] at h
  | succ n ih =>
    intro t s h fuel cs x hx
    unfold shapeOf at h
    split at h
    · rename_i k hu
      simp only [Option.some.injEq] at h; subst h
      obtain ⟨v, rfl, _, hw⟩ := DataW.trod_int hu hx
      exact ⟨⟨v, rfl, hw⟩, rfl⟩
    · rename_i hu
      simp only [Option.some.injEq] at h; subst h
      obtain ⟨v, rfl, _⟩ := DataW.trod_bool hu hx
      exact ⟨⟨v, rfl⟩, rfl⟩
    · rename_i hu
      simp only [Option.some.injEq] at h; subst h
      obtain ⟨v, rfl, _, hs⟩ := DataW.trod_string hu hx
      exact ⟨⟨v, rfl, hs⟩, rfl⟩
    · rename_i e hu
      split at h
      · rename_i q hq
        split at h
        · rename_i hc
          simp only [Option.some.injEq] at h; subst h
          rcases Go.Deep.open_slice hu hx with ⟨rfl, _⟩ | ⟨a, len, cap, m, fu, D, Pl, rfl, _, hl, hm, hmm, _, hi⟩
          · exact ⟨⟨none, 0, 0, [], rfl, Nat.le_refl _, by decide, rfl, Sl.nil, fun r hr => by cases hr⟩, rfl⟩
          · have hlm : len ≤ m := by rw [hmm]; split <;> omega
            rw [hc] at hi
            obtain ⟨R, hR⟩ := Go.Deep.choose_lt (α := List Value) (p := fun i cs' => w.cells? base (a.add (i * q.size)) q.size = some cs' ∧ DataW.trod enc P w base spare held fu e cs' = some (D i, Pl i)) hi
            refine ⟨⟨some a, len, cap, (List.range len).map R, rfl, hl, hm, by simp, ?_, ?_⟩, rfl⟩
            · have hrow : ∀ r ∈ (List.range len).map R, r.length = q.size := by
                intro r hr
                simp at hr
                obtain ⟨i, hi', rfl⟩ := hr
                exact (ih e q hq _ _ _ (hR i (by omega)).2).2
              have hcell : ∀ j u, ((List.range len).map R).flatten[j]? = some u → w.cell? (a.add j) = some u := by
                intro j u hu'
                obtain ⟨i, r, hi', hr, rfl, row, h1, h2⟩ := flatten_at q.size _ hrow j u hu'
                simp at hi'
                simp [hi'] at h1
                subst h1
                obtain ⟨_, hcl, hat⟩ := World.cells?_some (hR i (by omega)).1
                have := hat r hr
                rw [Go.Deep.add_add, h2] at this
                exact this
              intro hne
              have h0 : ∃ u, ((List.range len).map R).flatten[0]? = some u := by
                cases hf : ((List.range len).map R).flatten with
                | nil => exact absurd hf hne
                | cons u _ => exact ⟨u, rfl⟩
              obtain ⟨u, hu0⟩ := h0
              obtain ⟨b, o, sp⟩ := a
              have hsp : sp = none := by
                have := World.cell?_spot (hcell 0 u hu0)
                simpa [Addr.add] using this
              subst hsp
              exact ⟨b, o, rfl, fun j u hu => by rw [← addr_add]; exact hcell j u hu⟩
            · intro r hr
              simp at hr
              obtain ⟨i, hi', rfl⟩ := hr
              exact (ih e q hq _ _ _ (hR i (by omega)).2).1
        · cases h
      · cases h
    · rename_i fs hu
      split at h
      · rename_i q hq
        split at h
        · rename_i hc
          simp only [Option.some.injEq] at h; subst h
          obtain ⟨xs, m, _, _, hlen, hxl, hat⟩ := DataW.trod_struct hu hx
          have hcl : cs.length = q.size := by rw [hlen, hc]
          refine ⟨?_, hcl⟩
          have := fields_rd (enc := enc) (base := base) (spare := spare) (held := held) (shapeOf P n) ih m cs fs.toList 0 q hq (by omega) (fun f hf => by
            obtain ⟨i, hi, rfl⟩ := List.getElem_of_mem hf
            have hi' : i < fs.size := by simpa using hi
            have h1 := hat i fs[i] (Array.getElem?_eq_getElem hi')
            rw [List.getElem?_eq_getElem (by omega)] at h1
            exact ⟨_, by simpa using h1⟩)
          rwa [List.drop_zero, List.take_of_length_le (by omega)] at this
        · cases h
      · cases h
    · cases h
theorem arg_shape {n : Nat} {t : TypeId} {s : Shape} {v : Value} {d : DataW H} {p : List MemPlace} (hs : shapeOf P n t = some s) (h : DataW.Trod enc P w base spare held t v d p) : Rd w s v.cells.toList := by
  obtain ⟨fuel, hf⟩ := h
  exact (trod_shape n t s hs fuel _ _ hf).1
end

theorem rd_ints {w : World} {k : IntKind} {A : Option Addr} {n c : Nat} (h : Rd w (.sl (.int k)) [.slice A n c]) :
    ∃ l : List Int, l.length = n ∧ n ≤ c ∧ c ≤ maxLen ∧ Sl w A (ints k l) ∧ ∀ x ∈ l, (Lit.int k x).wf = true := by
  obtain ⟨A', n', c', rows, e, h1, h2, h3, h4, h5⟩ := h
  simp only [List.cons.injEq, Value.slice.injEq, and_true] at e
  obtain ⟨rfl, rfl, rfl⟩ := e
  have key : ∀ rows : List (List Value), (∀ r ∈ rows, Rd w (.int k) r) → ∃ l : List Int, l.length = rows.length ∧ rows.flatten = ints k l ∧ ∀ x ∈ l, (Lit.int k x).wf = true := by
    intro rows
    induction rows with
    | nil => intro _; exact ⟨[], rfl, rfl, fun x hx => by cases hx⟩
    | cons r rows ih =>
      intro h
      obtain ⟨l, a1, a2, a3⟩ := ih (fun x hx => h x (by simp [hx]))
      obtain ⟨x, rfl, hx⟩ := h r (by simp)
      refine ⟨x :: l, by simp [a1], by simp [a2, ints], ?_⟩
      intro y hy
      rcases List.mem_cons.1 hy with rfl | hy
      · exact hx
      · exact a3 y hy
  obtain ⟨l, a1, a2, a3⟩ := key rows h5
  rw [a2] at h4
  exact ⟨l, by omega, h1, h2, h4, a3⟩
section
variable {w w' : World}
theorem Rd.below : ∀ (s : Shape) {cs : List Value}, Rd w s cs → Below w.heap.size w w' → Rd w' s cs := by
  intro s
  induction s with
  | int k => intro cs h _; exact h
  | bool => intro cs h _; exact h
  | str => intro cs h _; exact h
  | nil => intro cs h _; exact h
  | cat a b iha ihb => intro cs ⟨x, y, e, h1, h2⟩ hb; exact ⟨x, y, e, iha h1 hb, ihb h2 hb⟩
  | sl s ih => intro cs ⟨A, n, c, rows, e, h1, h2, h3, h4, h5⟩ hb; exact ⟨A, n, c, rows, e, h1, h2, h3, h4.below hb, fun r hr => ih (h5 r hr) hb⟩
end
end Go.Proofs.YtldnponbkhgijaaDoor
end
section
namespace Go.Proofs.YtldnponbkhgijaaDoor
open Go.ChangeShapes Go.WideShapes Go.ChangeAt Go.RowKit
set_option linter.unusedVariables false
set_option linter.unusedSimpArgs false

section
variable {P : Program}
theorem run_copyN (w : World) (dT sT ty elem : TypeId) (size g o dLen dCap : Nat) (a : Addr) (sLen sCap : Nat) (cur : Array Value) (t : TypeId) (cs : List Value)
    (hu : P.underlying dT = some (.slice elem)) (hs : (P.info? elem).map (·.size) = some size)
    (hg : w.heap[g]? = some (.cells cur t (0, 0))) (hn : cs.length = Nat.min sLen dLen * size)
    (hsrc : ∀ j v, cs[j]? = some v → w.cell? (a.add j) = some v) (hfit : o + cs.length ≤ cur.size) (h1 : ∀ v ∈ cs, v.oneCell' = true) :
    (Builtin.copy_ #[dT, sT] ty #[.slice (some ⟨g, o, none⟩) dLen dCap, .slice (some a) sLen sCap]).run P w =
      .ok (goInt (Nat.min sLen dLen)) (w.setRow g (cur.toList.take o ++ cs ++ cur.toList.drop (o + cs.length)).toArray) := by
  have hl := run_loadCells_list (P := P) w a cs hsrc
  have hst := run_storeCells_at P g o t cs 0 cur w hg (by simpa using hfit) h1
  rw [hn] at hl
  cases hq : P.info? elem with
  | none => simp [hq] at hs
  | some i =>
    have hi : i.size = size := by simpa [hq] using hs
    simp [Builtin.copy_, run_underlying hu, Builtin.lenOf, Builtin.firstCells, sizeOf, typeInfo, hq, hi, hl, hst]
theorem step_copyN {ops : Array Oper} {o : Oper} {a : Act} {w : World} {K : Act → World → Prop} {Q : Exit → Act → World → Prop} {E : Prop} (hgd : o.guard = none) (d s : Operand) (dT sT : TypeId)
    (ho : o.op = .call { callee := .builtin .copy, args := #[d, s], argTypes := #[dT, sT] }) (elem : TypeId) (size : Nat) (hu : P.underlying dT = some (.slice elem)) (hsz : (P.info? elem).map (·.size) = some size)
    (g off dLen dCap : Nat) (ad : Addr) (sLen sCap : Nat) (hd : a.eval d = .slice (some ⟨g, off, none⟩) dLen dCap) (hs : a.eval s = .slice (some ad) sLen sCap)
    (cur : List Value) (t : TypeId) (hg : w.heap[g]? = some (.cells cur.toArray t (0, 0))) (cs : List Value) (hn : cs.length = Nat.min sLen dLen * size)
    (hsrc : ∀ j v, cs[j]? = some v → w.cell? (ad.add j) = some v) (hfit : off + cs.length ≤ cur.length) (h1 : ∀ v ∈ cs, v.oneCell' = true) (B : Nat) (w0 : World) (hb : Below B w0 w) (hBg : B ≤ g)
    (h : ∀ w', Hid (w'.heap[g]? = some (.cells (splice cur off cs).toArray t (0, 0))) → Hid (∀ k, k ≠ g → w'.heap[k]? = w.heap[k]?) → Below B w0 w' → K (a.put o.dst (goInt (Nat.min sLen dLen))) w') :
    if Region.wanted o (yielded ops a.tmps) = true then Oper.wp P o a w K Q else E := by
  have hw : Region.wanted o (yielded ops a.tmps) = true := by simp [Region.wanted, hgd]
  rw [if_pos hw]
  have hrun := run_copyN (P := P) w dT sT o.type elem size g off dLen dCap ad sLen sCap cur.toArray t cs hu hsz hg hn hsrc (by simpa using hfit) h1
  unfold Oper.wp
  simp [execOp, ho, resolve, invoke, builtin, hd, hs, hrun, Result.andThen]
  exact h _ (show _ = _ by simpa [splice] using setRow_heap w g _ _ t _ hg) (show ∀ k, k ≠ g → _ from fun k hk => setRow_other w g k _ hk) (below_setRow hb hBg _)
end

section
variable {w : World} {base : Nat} {e : TypeId} {size n c : Nat} {xs : List Value}
theorem own_set1 {g k : Nat} (h : w.ownsRow base e size (.slice (some ⟨g, 0, none⟩) n c) n xs) (hk : k < xs.length) (v : Value) :
    (w.setCell ⟨g, k, none⟩ v).ownsRow base e size (.slice (some ⟨g, 0, none⟩) n c) n (xs.set k v) := by
  refine ⟨by simpa using h.1, ?_⟩
  rcases h.2 with ⟨hv, _⟩ | ⟨g', cap, cur, hv, hb, hg, hnc, hcm, hcs, ht⟩
  · cases hv
  · injection hv with e1 e2 e3
    injection e1 with e1
    injection e1 with e1
    subst e1; subst e3
    have hkc : k < cur.size := by
      have h2 := h.1
      have : n * size ≤ c * size := Nat.mul_le_mul_right _ hnc
      omega
    refine .inr ⟨g, c, cur.set! k v, rfl, hb, ?_, hnc, hcm, by simpa using hcs, ?_⟩
    · rw [setCell_eq_setRow w g k cur e (0, 0) v hg]
      first | exact setRow_heap _ _ _ _ _ _ hg | simpa using setRow_heap _ _ _ _ _ _ hg
    · rw [← ht]
      simp
      rw [List.take_set]
theorem own_below {w w' : World} {B e size n : Nat} {v : Value} {xs : List Value} (h : w.ownsRow B e size v n xs) (hb : Below w.heap.size w w') : w'.ownsRow B e size v n xs := by
  obtain ⟨h1, h2⟩ := h
  refine ⟨h1, ?_⟩
  rcases h2 with h2 | ⟨g, cap, cur, hv, hg, hh, hr⟩
  · exact .inl h2
  · refine .inr ⟨g, cap, cur, hv, hg, ?_, hr⟩
    have hlt : g < w.heap.size := by
      rcases Nat.lt_or_ge g w.heap.size with hlt | hge
      · exact hlt
      · rw [Array.getElem?_eq_none hge] at hh; cases hh
    rw [hb.block g hlt]
    exact hh
end

def Ent (P : Program) (F : FuncId) : Prop := ∀ args w, (callFunc F args).run P w = .ok (.enter F args) w
theorem Ent.of {P : Program} {F : FuncId} (h : ((P.funcs[F]?).map fun f => (f.name == "runtime.NumGoroutine", f.body.isSome)) = some (false, true)) : Ent P F := by
  intro args w
  cases hf : P.funcs[F]? with
  | none => rw [hf] at h; simp at h
  | some fn =>
    rw [hf] at h
    simp only [Option.map_some, Option.some.injEq, Prod.mk.injEq] at h
    have h1 : fn.name ≠ "runtime.NumGoroutine" := by simpa using h.1
    cases hb : fn.body with
    | none => rw [hb] at h; simp at h
    | some c => simp [callFunc, hf, h1, hb]
theorem step_app {P : Program} {w : World} {ops : Array Oper} {o : Oper} {a : Act} {K : Act → World → Prop} {Q : Exit → Act → World → Prop} {Z : Prop} (hgd : o.guard = none) (s x : Operand) {t e : TypeId} {size bytes : Nat}
    (ho : o.op = .call { callee := .builtin .append, args := #[s, x], argTypes := #[t, t] }) (E : Elem P t e size bytes) {base n m c d : Nat} {A B : Option Addr} {xs news : List Value}
    (hs : a.eval s = .slice A n c) (hx : a.eval x = .slice B m d)
    (hown : w.ownsRow base e size (.slice A n c) n xs) (hl : news.length = m * size) (hr : Sl w B news) (h1 : ∀ u ∈ news, u.oneCell' = true)
    (h63 : n + m ≤ maxLen) (hb : (n + m) * bytes ≤ 140737488355328) (hbase : base ≤ w.heap.size)
    (h : ∀ A' c' w', w'.ownsRow base e size (.slice A' (n + m) c') (n + m) (xs ++ news) → w.grownBy w' (Value.slice A n c).ownBlock → Below base w w' → K (a.put o.dst (.slice A' (n + m) c')) w') :
    if Region.wanted o (yielded ops a.tmps) = true then Oper.wp P o a w K Q else Z := by
  have hw : Region.wanted o (yielded ops a.tmps) = true := by simp [Region.wanted, hgd]
  rw [if_pos hw]
  exact wp_app s x ho E hs hx hown hl hr h1 h63 hb hbase h
theorem own_base {w : World} {base base' e size n : Nat} {v : Value} {xs : List Value} (h : w.ownsRow base e size v n xs) (hb : base' ≤ base) : w.ownsRow base' e size v n xs := by
  obtain ⟨h1, h2⟩ := h
  refine ⟨h1, ?_⟩
  rcases h2 with h2 | ⟨g, cap, cur, hv, hg, hr⟩
  · exact .inl h2
  · exact .inr ⟨g, cap, cur, hv, Nat.le_trans hb hg, hr⟩
def rc {α : Type} (f : α → List Value) (l : List α) : List Value := (l.map f).flatten
section
variable {α : Type} {f : α → List Value} {m : Nat}
theorem rc_cons (a : α) (l : List α) : rc f (a :: l) = f a ++ rc f l := by simp [rc]
theorem rc_append (a b : List α) : rc f (a ++ b) = rc f a ++ rc f b := by simp [rc]
theorem rc_length (hf : ∀ a, (f a).length = m) (l : List α) : (rc f l).length = l.length * m := by
  induction l with
  | nil => simp [rc]
  | cons a l ih => rw [rc_cons, List.length_append, ih, hf, List.length_cons, Nat.add_mul]; omega
theorem rc_one (h1 : ∀ a, ∀ u ∈ f a, u.oneCell' = true) (l : List α) : ∀ u ∈ rc f l, u.oneCell' = true := by
  intro u hu
  simp only [rc, List.mem_flatten, List.mem_map] at hu
  obtain ⟨_, ⟨g, _, rfl⟩, hu⟩ := hu
  exact h1 g u hu
theorem rc_at (hf : ∀ a, (f a).length = m) : ∀ (l : List α) (k : Nat) (h : k < l.length) (j : Nat), j < m → (rc f l)[k * m + j]? = (f l[k])[j]? := by
  intro l
  induction l with
  | nil => intro k h; simp at h
  | cons a l ih =>
    intro k h j hj
    rw [rc_cons]
    cases k with
    | zero => rw [List.getElem?_append_left (by rw [hf]; omega)]; simp
    | succ k =>
      rw [List.getElem?_append_right (by rw [hf, Nat.add_mul]; omega), hf, show (k + 1) * m + j - m = k * m + j from by rw [Nat.add_mul]; omega]
      rw [ih k (by simpa using h) j hj]
      simp
theorem rc_take (hf : ∀ a, (f a).length = m) (l : List α) (k : Nat) : (rc f l).take (k * m) = rc f (l.take k) := by
  induction l generalizing k with
  | nil => simp [rc]
  | cons a l ih =>
    cases k with
    | zero => simp [rc]
    | succ k =>
      rw [rc_cons, List.take_succ_cons, rc_cons, List.take_append, hf, show (k + 1) * m - m = k * m from by rw [Nat.add_mul]; omega, ih, List.take_of_length_le (by rw [hf, Nat.add_mul]; omega)]
theorem rc_drop (hf : ∀ a, (f a).length = m) (l : List α) (k : Nat) : (rc f l).drop (k * m) = rc f (l.drop k) := by
  induction l generalizing k with
  | nil => simp [rc]
  | cons a l ih =>
    cases k with
    | zero => simp [rc]
    | succ k =>
      rw [rc_cons, List.drop_succ_cons, List.drop_append, hf, show (k + 1) * m - m = k * m from by rw [Nat.add_mul]; omega, ih, List.drop_eq_nil_of_le (by rw [hf, Nat.add_mul]; omega), List.nil_append]
theorem Sl.elem {w : World} {A : Option Addr} {l : List α} (hf : ∀ a, (f a).length = m) (hm : 0 < m) (h : Sl w A (rc f l)) {k : Nat} (hk : k < l.length) :
    ∃ b o, A = some ⟨b, o, none⟩ ∧ b < w.heap.size ∧ ∀ j u, (f l[k])[j]? = some u → w.cell? ⟨b, o + k * m + j, none⟩ = some u := by
  have hlen := rc_length hf l
  have hpos : k * m + 0 < (rc f l).length := by
    rw [hlen]
    have : (k + 1) * m ≤ l.length * m := Nat.mul_le_mul_right _ hk
    rw [Nat.add_mul] at this
    omega
  obtain ⟨b, o, hA, hc⟩ := h (by intro e; rw [e] at hpos; simp at hpos)
  have hg : ∀ j u, (f l[k])[j]? = some u → w.cell? ⟨b, o + k * m + j, none⟩ = some u := by
    intro j u hu
    have hj : j < m := by
      have := (List.getElem?_eq_some_iff.1 hu).1
      rwa [hf] at this
    rw [Nat.add_assoc]
    exact hc _ _ ((rc_at hf l k hk j hj).trans hu)
  have hmem := hc (k * m + 0) _ (List.getElem?_eq_getElem hpos)
  exact ⟨b, o, hA, World.block_lt_of_cell? _ _ hmem, hg⟩
end

theorem shift_row {α : Type} (cur x D XS : List α) (p q N C : Nat) (hC : cur.length = C) (hNC : N + x.length ≤ C) (hq : q = p + x.length) (hp : q ≤ N) (hXS : cur.take N = XS) (hD : D = XS.drop p) :
    ((splice cur q D).take p ++ x ++ (splice cur q D).drop (p + x.length)).length = C ∧
    ((splice cur q D).take p ++ x ++ (splice cur q D).drop (p + x.length)).take (N + x.length) = XS.take p ++ (x ++ D) := by
  subst hq
  have hXl : XS.length = N := by rw [← hXS, List.length_take]; omega
  have hDl : D.length = N - p := by rw [hD, List.length_drop, hXl]
  have e1 : (splice cur (p + x.length) D).take p = XS.take p := by
    unfold splice
    rw [List.take_append_of_le_length (by rw [List.length_take]; omega), List.take_take, ← hXS, List.take_take]
    congr 1
    omega
  have e2 : (splice cur (p + x.length) D).drop (p + x.length) = D ++ cur.drop (p + x.length + D.length) := by
    unfold splice
    rw [List.drop_append, List.drop_eq_nil_of_le (by rw [List.length_take]; omega), List.length_take, Nat.min_eq_left (by omega), Nat.sub_self, List.drop_zero, List.nil_append]
  rw [e1, e2]
  constructor
  · simp only [List.length_append, List.length_take, List.length_drop, hXl, hDl, hC]
    omega
  · rw [List.append_assoc, ← List.append_assoc x, ← List.append_assoc (XS.take p)]
    rw [List.take_append_of_le_length (by simp only [List.length_append, List.length_take, hXl, hDl]; omega)]
    exact List.take_of_length_le (by simp only [List.length_append, List.length_take, hXl, hDl]; omega)
theorem grow_row {α : Type} (ROW x D XS : List α) (p q C : Nat) (hC : ROW.length = C) (hq : q = p + x.length) (hfit : q + D.length ≤ C) (hXS : ROW.take p = XS.take p) :
    (splice (ROW.take p ++ x ++ ROW.drop (p + x.length)) q D).length = C ∧ (splice (ROW.take p ++ x ++ ROW.drop (p + x.length)) q D).take (q + D.length) = XS.take p ++ (x ++ D) := by
  subst hq
  have h1 : (ROW.take p ++ x).length = p + x.length := by rw [List.length_append, List.length_take]; omega
  have e1 : (ROW.take p ++ x ++ ROW.drop (p + x.length)).take (p + x.length) = XS.take p ++ x := by
    rw [List.take_append_of_le_length (by omega), List.take_of_length_le (by omega), hXS]
  have h2 : (ROW.take p ++ x ++ ROW.drop (p + x.length)).length = C := by rw [List.length_append, h1, List.length_drop]; omega
  constructor
  · rw [length_splice _ _ _ (by rw [h2]; exact hfit), h2]
  · unfold splice
    rw [e1, ← List.append_assoc, List.take_append_of_le_length (by rw [List.length_append, ← hXS, h1]; exact Nat.le_refl _), List.take_of_length_le (by rw [List.length_append, ← hXS, h1]; exact Nat.le_refl _), List.append_assoc]
theorem zeroCells_size (cs : Array Value) (k : Nat) (h : cs.size ≠ 0) : (Builtin.zeroCells cs k).size = k * cs.size := by
  simp [Builtin.zeroCells, h]
section
variable {α : Type}
def atL (p : α → Bool) (l : List α) : Int := match l.findIdx? p with | some k => (k : Int) | none => -1
theorem atL_cases (p : α → Bool) (l : List α) : (atL p l = -1 ∧ ∀ j, (hj : j < l.length) → p l[j] = false) ∨
    ∃ k : Nat, ∃ hk : k < l.length, atL p l = k ∧ p l[k] = true ∧ ∀ j, (hj : j < k) → p l[j] = false := by
  rcases h : l.findIdx? p with _ | k
  · left
    have e : atL p l = -1 := by unfold atL; rw [h]
    rw [List.findIdx?_eq_none_iff] at h
    exact ⟨e, fun j hj => h _ (List.getElem_mem hj)⟩
  · right
    have e : atL p l = k := by unfold atL; rw [h]
    rw [List.findIdx?_eq_some_iff_getElem] at h
    obtain ⟨hk, h1, h2⟩ := h
    exact ⟨k, hk, e, h1, fun j hj => by simpa using h2 j hj⟩
theorem atL_none {p : α → Bool} {l : List α} (h : ∀ j, (hj : j < l.length) → p l[j] = false) : atL p l = -1 := by
  rcases atL_cases p l with ⟨h1, _⟩ | ⟨k, hk, _, h2, _⟩
  · exact h1
  · rw [h k hk] at h2; cases h2
theorem atL_some {p : α → Bool} {l : List α} {k : Nat} (hk : k < l.length) (h : ∀ j, (hj : j < k) → p l[j] = false) (he : p l[k] = true) : atL p l = k := by
  rcases atL_cases p l with ⟨_, h1⟩ | ⟨k', hk', h1, h2, h3⟩
  · rw [h1 k hk] at he; cases he
  · rcases Nat.lt_trichotomy k k' with h4 | h4 | h4
    · rw [h3 k h4] at he; cases he
    · rw [h1, h4]
    · rw [h k' h4] at h2; cases h2
def pickL (p : α → Bool) (z : α) (l : List α) : α := (l.find? p).getD z
theorem find_none {p : α → Bool} {l : List α} (h : ∀ j, (hj : j < l.length) → p l[j] = false) : l.find? p = none := by
  rw [List.find?_eq_none]
  intro x hx
  obtain ⟨j, hj, rfl⟩ := List.getElem_of_mem hx
  rw [h j hj]; decide
theorem find_some {p : α → Bool} {l : List α} {k : Nat} (hk : k < l.length) (h : ∀ j, (hj : j < k) → p (l[j]'(by omega)) = false) (he : p l[k] = true) : l.find? p = some l[k] := by
  rw [List.find?_eq_some_iff_getElem]
  exact ⟨he, k, hk, rfl, fun j hj => by rw [h j hj]; rfl⟩
def putL (ah : α → α → Bool) (l : List α) (x : α) : List α :=
  match l.findIdx? (fun y => !ah y x) with
  | none => l ++ [x]
  | some k => match l[k]? with
    | none => l ++ [x]
    | some y => if ah x y then l.take k ++ x :: l.drop k else l.set k x
theorem putL_none {ah : α → α → Bool} {l : List α} {x : α} (h : ∀ j, (hj : j < l.length) → (!ah l[j] x) = false) : putL ah l x = l ++ [x] := by
  have : l.findIdx? (fun y => !ah y x) = none := by
    rw [List.findIdx?_eq_none_iff]
    intro y hy
    obtain ⟨j, hj, rfl⟩ := List.getElem_of_mem hy
    exact h j hj
  rw [putL, this]
theorem putL_some {ah : α → α → Bool} {l : List α} {x : α} {k : Nat} (hk : k < l.length) (h : ∀ j, (hj : j < k) → (!ah l[j] x) = false) (he : (!ah l[k] x) = true) :
    putL ah l x = if ah x l[k] then l.take k ++ x :: l.drop k else l.set k x := by
  have : l.findIdx? (fun y => !ah y x) = some k := by
    rw [List.findIdx?_eq_some_iff_getElem]
    refine ⟨hk, he, fun j hj => ?_⟩
    rw [h j hj]; decide
  rw [putL, this]
  simp only [List.getElem?_eq_getElem hk]
end
end Go.Proofs.YtldnponbkhgijaaDoor
end
section
namespace Go.Proofs.YtldnponbkhgijaaDoor
open Go.ChangeShapes Go.WideShapes Go.ChangeAt Go.RowKit
set_option linter.unusedVariables false
set_option linter.unusedSimpArgs false

structure Iq where
  (id : Int) (mult : Int) (price : Int) (nxt : Int) (mv : Option Addr) (mvL mvC : Nat)
deriving DecidableEq
def Iq.cells (g : Iq) : List Value := [.int .i64 g.id, .int .i64 g.mult, .int .i64 g.price, .int .i64 g.nxt, .slice g.mv g.mvL g.mvC]
def Iq.val (g : Iq) : Value := .agg #[.int .i64 g.id, .int .i64 g.mult, .int .i64 g.price, .int .i64 g.nxt, .slice g.mv g.mvL g.mvC]
def Iq.zero : Iq := ⟨0, 0, 0, 0, none, 0, 0⟩
theorem Iq.len (g : Iq) : g.cells.length = 5 := rfl
theorem Iq.one (g : Iq) : ∀ u ∈ g.cells, u.oneCell' = true := by
  intro u hu
  simp only [Iq.cells, List.mem_cons, List.not_mem_nil, or_false] at hu
  rcases hu with h | h | h | h | h <;> subst h <;> rfl
def Iq.at (g : Iq) (w : World) (b o : Nat) : Prop :=
  w.cell? ⟨b, o, none⟩ = some (.int .i64 g.id) ∧ w.cell? ⟨b, o + 1, none⟩ = some (.int .i64 g.mult) ∧ w.cell? ⟨b, o + 2, none⟩ = some (.int .i64 g.price) ∧ w.cell? ⟨b, o + 3, none⟩ = some (.int .i64 g.nxt) ∧ w.cell? ⟨b, o + 4, none⟩ = some (.slice g.mv g.mvL g.mvC)
theorem Iq.at_of {w : World} {b o : Nat} {g : Iq} (h : ∀ j u, g.cells[j]? = some u → w.cell? ⟨b, o + j, none⟩ = some u) : g.at w b o :=
  ⟨h 0 _ rfl, h 1 _ rfl, h 2 _ rfl, h 3 _ rfl, h 4 _ rfl⟩
theorem Iq.at_keep {w w' : World} {b o : Nat} {g : Iq} (h : g.at w b o) (k : ∀ i, w'.cell? ⟨b, i, none⟩ = w.cell? ⟨b, i, none⟩) : g.at w' b o := by
  unfold Iq.at at *
  simp only [k]
  exact h
theorem Sl.iq {w : World} {A : Option Addr} {l : List Iq} (h : Sl w A (rc Iq.cells l)) {k : Nat} (hk : k < l.length) : ∃ b o, A = some ⟨b, o, none⟩ ∧ b < w.heap.size ∧ l[k].at w b (o + k * 5) := by
  obtain ⟨b, o, hA, hb, hc⟩ := Sl.elem (m := 5) Iq.len (by decide) h hk
  exact ⟨b, o, hA, hb, Iq.at_of hc⟩
theorem EIq : Elem Tryd.prog 22 25 5 56 := Elem.mk' (z := .agg #[.int .i64 0, .int .i64 0, .int .i64 0, .int .i64 0, .slice none 0 0]) (by kernel_rfl) (by kernel_rfl) (by decide) (by decide)
def Iq.Tells (F : Nat) (caps : Array Value) (p : Iq → Bool) (B : Nat) (w : World) : Prop :=
  ∀ (g : Iq) (W : World), Below B w W → Calls Tryd.prog F (#[g.val] ++ caps) W fun e w' => e = .returned (.bool (p g)) ∧ Below W.heap.size W w'
theorem Iq.Tells.below {F : Nat} {caps : Array Value} {p : Iq → Bool} {B : Nat} {w w1 : World} (h : Iq.Tells F caps p B w) (hb : Below B w w1) {C : Nat} (hC : B ≤ C) : Iq.Tells F caps p C w1 :=
  fun g W hW => h g W (hb.trans (hW.mono hC))
set_option maxHeartbeats 1000000 in
set_option maxRecDepth 100000 in
theorem index_iq (A : Option Addr) (cap : Nat) (l : List Iq) (F : Nat) (caps : Array Value) (p : Iq → Bool) (w : World) (hl : l.length ≤ 1000000) (hs : Sl w A (rc Iq.cells l)) (hF : Ent Tryd.prog F) (hp : Iq.Tells F caps p w.heap.size w) :
    Calls Tryd.prog 31 #[.slice A l.length cap, .func (.func F) #[] caps] w fun e w' => e = .returned (.int .i64 (atL p l)) ∧ Below w.heap.size w w' := by
  go_enter Tryd.func31, Tryd.ntmps31
  go_wp2
  go_loopw [8] (fun i wr => ∃ k : Nat, k ≤ l.length ∧ i = .int .i64 k ∧ (∀ j, (hj : j < l.length) → j < k → p l[j] = false) ∧ Below w.heap.size w wr) (fun i _ => l.length - (intOf i).toNat)
  case atStart => exact ⟨0, by omega, rfl, fun j hj h => absurd h (by omega), Below.refl _ _⟩
  case round =>
    obtain ⟨k, hk, rfl, hno, hB⟩ := hrel
    by_cases hlt2 : k < l.length
    · obtain ⟨b, o, rfl, hbw, hg⟩ := hs.iq hlt2
      have hg1 : l[k].at wr b (o + k * 5) := Iq.at_keep (w := w) hg fun i => hB.cell (p := ⟨b, i, none⟩) hbw
      obtain ⟨g0, g1, g2, g3, g4⟩ := hg1
      have hbr : b < wr.heap.size := Nat.lt_of_lt_of_le hbw hB.size
      have step := hp l[k] wr hB
      cases hq : p l[k] with
      | true =>
        have HQ := Lib.hid hq
        go_wp2_with fail
        rw [hF, Oper.upon_enter]
        refine step.mono ?_
        rintro e w1 ⟨rfl, hb1⟩
        have hB1 := since_step hB hb1
        clear hb1
        rw [HQ.out]
        go_wp2
        go_ret
        exact ⟨retI (atL_some hlt2 (fun j hj => hno j (by omega) hj) HQ.out).symm, hB1⟩
      | false =>
        have HQ := Lib.hid hq
        go_wp2_with fail
        rw [hF, Oper.upon_enter]
        refine step.mono ?_
        rintro e w1 ⟨rfl, hb1⟩
        have hB1 := since_step hB hb1
        clear hb1
        rw [HQ.out]
        go_wp2
        go_roundw
        case rel =>
          refine ⟨k + 1, by omega, by go_num, fun j hj hjk => ?_, hB1⟩
          rcases Nat.lt_or_ge j k with h | h
          · exact hno j hj h
          · obtain rfl : j = k := by omega
            exact HQ.out
        case measure => simp [intOf]; omega
    · go_wp2
      go_ret
      exact ⟨retI (atL_none fun j hj => hno j hj (by omega)).symm, hB⟩
set_option maxHeartbeats 1000000 in
set_option maxRecDepth 100000 in
theorem clone_iq (A : Option Addr) (cap : Nat) (l : List Iq) (w : World) (hl : l.length ≤ 1000000) (hs : Sl w A (rc Iq.cells l)) :
    Calls Tryd.prog 34 #[.slice A l.length cap] w fun e w' => (∃ A' c', e = .returned (.slice A' l.length c') ∧ w'.ownsRow w.heap.size 25 5 (.slice A' l.length c') l.length (rc Iq.cells l)) ∧ Below w.heap.size w w' := by
  cases A with
  | none =>
    have hn : l = [] := by
      cases l with
      | nil => rfl
      | cons g m => obtain ⟨b, o, e, _⟩ := hs.iq (k := 0) (by simp); cases e
    subst hn
    have hnil := fun w : World => Go.Lib.run_eql_slice_nil (P := Tryd.prog) w 22 25 none 0 cap 0 0 EIq.und
    go_enter Tryd.func34, Tryd.ntmps34
    go_wp2_with fail
    go_ret
    exact ⟨⟨none, 0, rfl, own_nil _ _ _⟩, Below.refl _ _⟩
  | some ad =>
    have hnil := fun w : World => Go.Lib.run_eql_slice_nil (P := Tryd.prog) w 22 25 (some ad) l.length cap 0 0 EIq.und
    go_enter Tryd.func34, Tryd.ntmps34
    go_wp2_with (first
      | (at_builtin; refine wpList_app rfl (.tmp 5) (.tmp 6) rfl EIq rfl rfl (World.ownsRow_made (w := w) #[] 0 (Nat.le_refl _) (Nat.zero_le _) rfl) (rc_length Iq.len l) (hs.alloc _) (rc_one Iq.one l) (by unfold maxLen; omega) (by omega) (by simp) ?_; intro A2 c2 w2 hown2 hg2 hb2; simp only [Nat.zero_add, List.nil_append] at hown2)
      | fail)
    refine bodyPost_ret (results_tmp rfl _ _ _) rfl ⟨⟨A2, c2, by simp, by simpa using hown2⟩, ?_⟩
    exact Below.trans ((Below.refl _ _).alloc (Nat.le_refl _) _) hb2
theorem set_rc_iq (g : Iq) : ∀ (l : List Iq) (k : Nat), k < l.length → ((((((rc Iq.cells l).set (k * 5) (.int .i64 g.id)).set (k * 5 + 1) (.int .i64 g.mult)).set (k * 5 + 2) (.int .i64 g.price)).set (k * 5 + 3) (.int .i64 g.nxt)).set (k * 5 + 4) (.slice g.mv g.mvL g.mvC)) = rc Iq.cells (l.set k g) := by
  intro l
  induction l with
  | nil => intro k h; simp at h
  | cons a l ih =>
    intro k h
    cases k with
    | zero => simp [rc, Iq.cells]
    | succ k =>
      have := ih k (by simpa using h)
      have e0 : (k + 1) * 5 = k * 5 + 5 := by omega
      rw [e0]
      simp only [rc, List.map_cons, List.flatten_cons, List.set_cons_succ, Iq.cells, List.cons_append, List.nil_append] at this ⊢
      rw [← this]
theorem own_set_iq {w : World} {B b k n c : Nat} {l : List Iq} (h : w.ownsRow B 25 5 (.slice (some ⟨b, 0, none⟩) n c) n (rc Iq.cells l)) (hk : k < l.length) (g : Iq) :
    ((((((w.setCell ⟨b, k * 5, none⟩ (.int .i64 g.id)).setCell ⟨b, k * 5 + 1, none⟩ (.int .i64 g.mult)).setCell ⟨b, k * 5 + 2, none⟩ (.int .i64 g.price)).setCell ⟨b, k * 5 + 3, none⟩ (.int .i64 g.nxt)).setCell ⟨b, k * 5 + 4, none⟩ (.slice g.mv g.mvL g.mvC))).ownsRow B 25 5 (.slice (some ⟨b, 0, none⟩) n c) n (rc Iq.cells (l.set k g)) := by
  rw [← set_rc_iq g l k hk]
  have hl := rc_length Iq.len l
  have hkk : k * 5 + 5 ≤ l.length * 5 := by have := Nat.mul_le_mul_right 5 (show k + 1 ≤ l.length from hk); omega
  refine (own_set1 (own_set1 (own_set1 (own_set1 (own_set1 h ?_ _) ?_ _) ?_ _) ?_ _) ?_ _)
  all_goals first | omega | (simp only [List.length_set]; omega)
set_option maxHeartbeats 1000000 in
set_option maxRecDepth 100000 in
theorem set_iq (A : Option Addr) (cap : Nat) (l : List Iq) (k : Nat) (g : Iq) (w : World) (hl : l.length ≤ 1000000) (hk : k < l.length) (hs : Sl w A (rc Iq.cells l)) :
    Calls Tryd.prog 36 #[.slice A l.length cap, .int .i64 k, g.val] w fun e w' => (∃ A' c', e = .returned (.slice A' l.length c') ∧ w'.ownsRow w.heap.size 25 5 (.slice A' l.length c') l.length (rc Iq.cells (l.set k g))) ∧ Below w.heap.size w w' := by
  unfold Iq.val
  go_enter Tryd.func36, Tryd.ntmps36
  go_wp2_with fail
  refine (clone_iq A cap l _ hl (hs.alloc _)).mono ?_
  rintro e w1 ⟨⟨A1, c1, rfl, hown⟩, hb1⟩
  have Bv := (Bk.new w g.cells.toArray 25).below hb1
  have hB1 := since_step (since_alloc (Below.refl _ _) _) hb1
  obtain ⟨gb, rfl, h1, h2, h3⟩ := own_at hown (by omega)
  simp only [World.size_alloc] at h1 hown
  clear hb1
  obtain ⟨lb, cb⟩ := id Bv
  have q0 := cb 0
  have q1 := cb 1
  have q2 := cb 2
  have q3 := cb 3
  have q4 := cb 4
  simp [Iq.cells] at q0 q1 q2 q3 q4
  clear cb
  obtain ⟨b, o, e, hbw, hgat⟩ := (Sl.of_own hown).iq hk
  injection e with e
  injection e with e1 e2 e3
  subst e1; subst e2
  simp only [Nat.zero_add] at hgat
  obtain ⟨g0, g1, g2, g3, g4⟩ := id hgat
  go_wp2_with fail
  refine bodyPost_ret (results_tmp rfl _ _ _) rfl ⟨⟨_, _, rfl, ?_⟩, ?_⟩
  · have hh := own_set_iq hown hk g
    rcases hh with ⟨hh1, hh2⟩
    refine ⟨hh1, ?_⟩
    rcases hh2 with ⟨hh2, _⟩ | ⟨g', cap', cur', e1, e2, e3⟩
    · cases hh2
    · exact .inr ⟨g', cap', cur', e1, by omega, e3⟩
  repeat' (first | with_reducible exact hB1 | with_reducible refine Below.setCell ?_ ?_ _)
  all_goals first | (simp; done) | (simp; omega)
theorem run_sizeOf_iq (w : World) : (Go.sizeOf 25).run Tryd.prog w = .ok 5 w := by
  obtain ⟨i, z, hi, hz, hsize, hby, hzs⟩ := EIq.info
  simp [Go.sizeOf, typeInfo, hi, hsize]
theorem info_size_iq : (Tryd.prog.info? 25).map (·.size) = some 5 := by kernel_rfl
theorem overlaps_iq (w : World) (vb g o vc lb cb : Nat) (cs cur : Array Value) (hv : w.heap[vb]? = some (.cells cs 25 (0, 0))) (hg : w.heap[g]? = some (.cells cur 25 (0, 0))) (hne : vb ≠ g) (h0 : cur.size ≠ 0) :
    (callFunc 45 #[.slice (some ⟨vb, 0, none⟩) 1 vc, .slice (some ⟨g, o, none⟩) lb cb]).run Tryd.prog w = .ok (.value (.bool false)) w := by
  rw [run_callFunc_extern Tryd.func45 (by kernel_rfl) (by kernel_rfl) (by kernel_rfl) (e := Extern.SlicesOverlaps.overlaps #[22, 22] #[4]) (by kernel_rfl),
    Lib.run_overlaps_apart w 22 4 25 EIq.und 5 run_sizeOf_iq ⟨vb, 0, none⟩ ⟨g, o, none⟩ 1 vc lb cb hne 25 25 cs.size cur.size (by simp [World.shape?, hv]) (by simp [World.shape?, hg]) h0 (by simp [World.frozen?, hv]) (by simp [World.frozen?, hv])]
  rfl
set_option maxHeartbeats 4000000 in
set_option maxRecDepth 100000 in
theorem insert_room_iq (B g i n c vb vc : Nat) (l : List Iq) (x : Iq) (w : World) (hn : l.length = n) (hi : i < n) (hroom : n + 1 ≤ c) (hown : w.ownsRow B 25 5 (.slice (some ⟨g, 0, none⟩) n c) n (rc Iq.cells l))
    (hv : w.heap[vb]? = some (.cells x.cells.toArray 25 (0, 0))) (hne : vb ≠ g) :
    Calls Tryd.prog 35 #[.slice (some ⟨g, 0, none⟩) n c, .int .i64 i, .slice (some ⟨vb, 0, none⟩) 1 vc] w fun e w' =>
      (∃ A' c', e = .returned (.slice A' (n + 1) c') ∧ w'.ownsRow B 25 5 (.slice A' (n + 1) c') (n + 1) (rc Iq.cells (l.take i ++ x :: l.drop i))) ∧ Below B w w' := by
  rcases hown.2 with ⟨hh, _⟩ | ⟨g', cap, cur, hh, hB, hg, hnc, hcm, hcs, ht⟩
  · cases hh
  injection hh with e1 e2 e3
  injection e1 with e1
  injection e1 with e1
  subst e1; subst e3
  unfold maxLen at hcm
  have hov := fun o lb cb => overlaps_iq w vb g o vc lb cb _ _ hv hg hne (by omega)
  have hw1 : IntKind.i64.wrap ((i : Int) + 1) = (i : Int) + 1 := by rw [IntKind.wrap_i64]; omega
  have hb1 : (0 : Int) ≤ (i : Int) + 1 := by omega
  have htn : ((i : Int) + 1).toNat = i + 1 := by omega
  have hb2 : ¬ (c = i + 1) := by omega
  have hb3 : (i : Int) ≤ (n : Int) + 1 := by omega
  have hb4 : ¬ (c = i) := by omega
  have hz2 : ¬ ((i : Int) = (n : Int)) := by omega
  have hin : i ≤ n := by omega
  have hml : (i + 1) * 5 ≤ n * 5 := Nat.mul_le_mul_right _ (by omega)
  have hmc : (n + 1) * 5 ≤ c * 5 := Nat.mul_le_mul_right _ hroom
  have hlen : (rc Iq.cells (l.drop i)).length = (n - i) * 5 := by rw [rc_length Iq.len, List.length_drop, hn]
  have HM : Hid (Nat.min (n + 1 - i) (n - i) = n - i ∧ Nat.min 1 (n + 1 - i) = 1) := Lib.hid ⟨Nat.min_eq_right (by omega), Nat.min_eq_left (by omega)⟩
  have HN := Lib.hid (show (rc Iq.cells (l.drop i)).length = Nat.min (n + 1 - i) (n - i) * 5 by rw [hlen, HM.out.1])
  have HS : Hid (∀ j v, (rc Iq.cells (l.drop i))[j]? = some v → w.drew.cell? ((⟨g, i * 5, none⟩ : Addr).add j) = some v) := Lib.hid (by
    intro j v hj
    have hlt : j < (n - i) * 5 := by rw [← hlen]; exact (List.getElem?_eq_some_iff.1 hj).1
    rw [addr_add]
    show w.cell? _ = _
    rw [cell_of_row w g _ cur 25 (0, 0) hg, ← Array.getElem?_toList]
    rw [← rc_drop Iq.len, List.getElem?_drop, ← ht, List.getElem?_take] at hj
    split at hj
    · exact hj
    · cases hj)
  have HF := Lib.hid (show (i + 1) * 5 + (rc Iq.cells (l.drop i)).length ≤ cur.toList.length by rw [hlen, Array.length_toList, hcs, Nat.sub_mul]; omega)
  have HG := Lib.hid (show w.drew.heap[g]? = some (.cells cur.toList.toArray 25 (0, 0)) by show w.heap[g]? = _; simpa using hg)
  have HC : Hid (cur.toList.length = c * 5 ∧ n * 5 + x.cells.length ≤ c * 5 ∧ (i + 1) * 5 = i * 5 + x.cells.length ∧ (i + 1) * 5 ≤ n * 5) := Lib.hid ⟨by simpa using hcs, by rw [Iq.len]; omega, by rw [Iq.len]; omega, hml⟩
  have HD : Hid (Below B w w.drew) := Lib.hid ⟨rfl, rfl, rfl, Nat.le_refl _, fun _ _ => rfl⟩
  clear hlen hml hmc
  go_enter Tryd.func35, Tryd.ntmps35
  go_wp2_with (simp only [hov])
  go_region_law (refine step_copyN rfl (.tmp 73) (.tmp 76) 22 22 rfl 25 5 EIq.und info_size_iq g ((i + 1) * 5) (n - i) (c - (i + 1)) ⟨g, i * 5, none⟩ (n + 1 - i) (c - i) (by simp [Act.eval, Act.put]; done) (by simp [Act.eval, Act.put]; done) cur.toList 25 HG.out (rc Iq.cells (l.drop i)) HN.out HS.out HF.out (rc_one Iq.one _) B w HD.out hB ?_; intro w4 hg4 hk4 hb4; rw [HM.out.1])
  have HV : Hid (∀ j v, x.cells[j]? = some v → w4.cell? ((⟨vb, 0, none⟩ : Addr).add j) = some v) := Lib.hid (by
    intro j v hj
    rw [addr_add, Nat.zero_add, cell_of_row w4 vb j x.cells.toArray 25 (0, 0) ((hk4.out vb hne).trans hv)]
    simpa using hj)
  have HF2 := Lib.hid (show i * 5 + x.cells.length ≤ (splice cur.toList ((i + 1) * 5) (rc Iq.cells (l.drop i))).length by
    rw [length_splice _ _ _ HF.out, Iq.len, Array.length_toList, hcs]
    have : (i + 1) * 5 ≤ c * 5 := Nat.mul_le_mul_right _ (by omega)
    omega)
  have hrun := run_copyN (P := Tryd.prog) w4 22 22 3 25 5 g (i * 5) (n + 1 - i) (c - i) ⟨vb, 0, none⟩ 1 vc _ 25 x.cells EIq.und info_size_iq hg4.out (by rw [HM.out.2]; rfl) HV.out (by simpa using HF2.out) (Iq.one x)
  have hg5 := setRow_heap w4 g _ ((List.take (i * 5) (splice cur.toList ((i + 1) * 5) (rc Iq.cells (List.drop i l))).toArray.toList ++ x.cells ++ List.drop (i * 5 + x.cells.length) (splice cur.toList ((i + 1) * 5) (rc Iq.cells (List.drop i l))).toArray.toList)).toArray 25 (0, 0) hg4.out
  have hb5 := below_setRow hb4 hB ((List.take (i * 5) (splice cur.toList ((i + 1) * 5) (rc Iq.cells (List.drop i l))).toArray.toList ++ x.cells ++ List.drop (i * 5 + x.cells.length) (splice cur.toList ((i + 1) * 5) (rc Iq.cells (List.drop i l))).toArray.toList)).toArray
  rw [HM.out.2] at hrun
  generalize w4.setRow g _ = w5 at hrun hg5 hb5
  have HG5 := Lib.hid hg5
  have HR := Lib.hid hrun
  clear hg5 hrun
  go_wp2_with fail
  rw [HR.out, Result.andThen_ok, Oper.upon_value]
  go_wp2
  go_ret
  refine ⟨⟨some ⟨g, 0, none⟩, c, rfl, ?_, .inr ⟨g, c, _, rfl, hB, HG5.out, hroom, hcm, ?_, ?_⟩⟩, hb5⟩
  · rw [rc_length Iq.len]
    simp
    omega
  · have := (shift_row cur.toList x.cells (rc Iq.cells (l.drop i)) (rc Iq.cells l) (i * 5) ((i + 1) * 5) (n * 5) (c * 5) HC.out.1 HC.out.2.1 HC.out.2.2.1 HC.out.2.2.2 ht (rc_drop Iq.len l i).symm).1
    rw [List.size_toArray]
    exact this
  · have := (shift_row cur.toList x.cells (rc Iq.cells (l.drop i)) (rc Iq.cells l) (i * 5) ((i + 1) * 5) (n * 5) (c * 5) HC.out.1 HC.out.2.1 HC.out.2.2.1 HC.out.2.2.2 ht (rc_drop Iq.len l i).symm).2
    rw [rc_append, rc_cons, ← rc_take Iq.len, ← this, Nat.add_mul]
    rfl
set_option maxHeartbeats 4000000 in
set_option maxRecDepth 100000 in
theorem insert_grow_iq (B g i n c vb vc : Nat) (l : List Iq) (x : Iq) (w : World) (hn : l.length = n) (hn6 : n ≤ 1000000) (hi : i < n) (hroom : c < n + 1) (hown : w.ownsRow B 25 5 (.slice (some ⟨g, 0, none⟩) n c) n (rc Iq.cells l))
    (hv : w.heap[vb]? = some (.cells x.cells.toArray 25 (0, 0))) (hBw : B ≤ w.heap.size) :
    Calls Tryd.prog 35 #[.slice (some ⟨g, 0, none⟩) n c, .int .i64 i, .slice (some ⟨vb, 0, none⟩) 1 vc] w fun e w' =>
      (∃ A' c', e = .returned (.slice A' (n + 1) c') ∧ w'.ownsRow B 25 5 (.slice A' (n + 1) c') (n + 1) (rc Iq.cells (l.take i ++ x :: l.drop i))) ∧ Below B w w' := by
  rcases hown.2 with ⟨hh, _⟩ | ⟨g', cap, cur, hh, hB, hg, hnc, hcm, hcs, ht⟩
  · cases hh
  injection hh with e1 e2 e3
  injection e1 with e1
  injection e1 with e1
  subst e1; subst e3
  obtain ⟨inf, z, hinf, hz, hsize, hby, hzs⟩ := EIq.info
  have hgl : g < w.heap.size := by
    rcases Nat.lt_or_ge g w.heap.size with hlt | hge
    · exact hlt
    · rw [Array.getElem?_eq_none hge] at hg; cases hg
  have hvl : vb < w.heap.size := by
    rcases Nat.lt_or_ge vb w.heap.size with hlt | hge
    · exact hlt
    · rw [Array.getElem?_eq_none hge] at hv; cases hv
  have hlT : (rc Iq.cells (l.take i)).length = i * 5 := by rw [rc_length Iq.len, List.length_take, Nat.min_eq_left (by omega)]
  have hlD : (rc Iq.cells (l.drop i)).length = (n - i) * 5 := by rw [rc_length Iq.len, List.length_drop, hn]
  have hold : (Builtin.firstCells inf.size i (.slice (some ⟨g, 0, none⟩) i c)).run Tryd.prog w.drew = .ok (rc Iq.cells (l.take i)).toArray w.drew := by
    rw [hsize]
    refine run_firstCells_some w.drew 5 i ⟨g, 0, none⟩ i c (rc Iq.cells (l.take i)) hlT fun j v hj => ?_
    rw [addr_add, Nat.zero_add]
    show w.cell? _ = _
    rw [cell_of_row w g _ cur 25 (0, 0) hg, ← Array.getElem?_toList]
    rw [← rc_take Iq.len, ← ht, List.take_take, List.getElem?_take] at hj
    split at hj
    · exact hj
    · cases hj
  have hik : i + (n + 1 - i) = n + 1 := by omega
  have hkk : (n : Int) + 1 - (i : Int) = ((n + 1 - i : Nat) : Int) := by omega
  obtain ⟨G, hG⟩ : ∃ G, G = grownCap w (n + 1) c 25 := ⟨_, rfl⟩
  obtain ⟨ROW, hROW⟩ : ∃ ROW : Array Value, ROW = (rc Iq.cells (l.take i)).toArray ++ Builtin.zeroCells z.cells (n + 1 - i) ++ Builtin.zeroCells z.cells (G - (n + 1)) := ⟨_, rfl⟩
  have hrz : (Builtin.append_ #[22, 3] 22 #[.slice (some ⟨g, 0, none⟩) i c, .int .i64 ((n : Int) + 1 - (i : Int))]).run Tryd.prog w =
      .ok (.slice (some ⟨w.heap.size, 0, none⟩) (n + 1) G) (w.drew.alloc (.cells ROW 25)) := by
    have h := Lib.run_append_grow_zeros w 22 3 22 25 inf z .i64 .i64 EIq.und (by kernel_rfl) hinf hz (some ⟨g, 0, none⟩) i c (rc Iq.cells (l.take i)) hold (n + 1 - i) (by omega) (by omega) (by omega) (by omega) (by rw [hby]; omega) (by rw [hby, hik]; exact growslice_fits hroom (by omega))
    rw [hik, ← hG] at h
    rw [hkk, hROW]
    exact h
  have hGn : n + 1 ≤ G := by rw [hG]; exact grownCap_ge w _ _ _
  have hGm : G ≤ maxLen := by rw [hG]; exact grownCap_le_maxLen w (n + 1) c 25 (by unfold maxLen; omega)
  have hRs : ROW.size = G * 5 := by
    rw [hROW, Array.size_append, Array.size_append, zeroCells_size _ _ (by omega), zeroCells_size _ _ (by omega), List.size_toArray, hlT, hzs]
    have e1 : G = i + (n + 1 - i) + (G - (n + 1)) := by omega
    have : G * 5 = (i + (n + 1 - i) + (G - (n + 1))) * 5 := by rw [← e1]
    rw [this, Nat.add_mul, Nat.add_mul]
  have hRt : ROW.toList.take (i * 5) = (rc Iq.cells l).take (i * 5) := by
    rw [rc_take Iq.len, hROW, Array.toList_append, Array.toList_append, List.append_assoc]
    simp only [List.append_assoc]
    rw [List.take_append_of_le_length (by rw [hlT]; exact Nat.le_refl _), List.take_of_length_le (by rw [hlT]; exact Nat.le_refl _)]
  have hgn : (w.drew.alloc (.cells ROW 25)).heap[w.heap.size]? = some (.cells ROW 25 (0, 0)) := heap_alloc_new w.drew _
  have hgo : (w.drew.alloc (.cells ROW 25)).heap[g]? = some (.cells cur 25 (0, 0)) := (heap_alloc_old w.drew (.cells ROW 25) (show g < w.drew.heap.size from hgl)).trans hg
  have hgv : (w.drew.alloc (.cells ROW 25)).heap[vb]? = some (.cells x.cells.toArray 25 (0, 0)) := (heap_alloc_old w.drew (.cells ROW 25) (show vb < w.drew.heap.size from hvl)).trans hv
  have hW1 : Below B w (w.drew.alloc (.cells ROW 25)) := Below.alloc (show Below B w w.drew from ⟨rfl, rfl, rfl, Nat.le_refl _, fun _ _ => rfl⟩) hBw _
  have hgN : w.heap.size ≠ g := by omega
  have hvN : w.heap.size ≠ vb := by omega
  generalize w.drew.alloc (.cells ROW 25) = W1 at hrz hgn hgo hgv hW1
  generalize hNN : w.heap.size = N at hrz hgn hgN hvN hBw
  clear hNN
  have hXl : x.cells.length = 5 := Iq.len x
  have hin1 : (i + 1) * 5 ≤ n * 5 := Nat.mul_le_mul_right _ (by omega)
  have hGmul : (n + 1) * 5 ≤ G * 5 := Nat.mul_le_mul_right _ hGn
  have hniM : (n - i) * 5 = n * 5 - i * 5 := Nat.sub_mul _ _ _
  have hcp1 := run_copyN (P := Tryd.prog) W1 22 22 3 25 5 N (i * 5) (n + 1 - i) (G - i) ⟨vb, 0, none⟩ 1 vc ROW 25 x.cells EIq.und info_size_iq hgn (by rw [show Nat.min 1 (n + 1 - i) = 1 from Nat.min_eq_left (by omega)]; rfl)
    (fun j v hj => by rw [addr_add, Nat.zero_add, cell_of_row W1 vb j x.cells.toArray 25 (0, 0) hgv]; simpa using hj) (by rw [hXl, hRs]; omega) (Iq.one x)
  rw [show Nat.min 1 (n + 1 - i) = 1 from Nat.min_eq_left (by omega)] at hcp1
  obtain ⟨R1, hR1⟩ : ∃ R1, R1 = ROW.toList.take (i * 5) ++ x.cells ++ ROW.toList.drop (i * 5 + x.cells.length) := ⟨_, rfl⟩
  rw [← hR1] at hcp1
  have hR1l : R1.length = G * 5 := by rw [hR1, List.length_append, List.length_append, List.length_take, List.length_drop, hXl, Array.length_toList, hRs]; omega
  have hgn2 := setRow_heap W1 N _ R1.toArray 25 (0, 0) hgn
  have hgo2 := (setRow_other W1 N g R1.toArray (fun h => hgN h.symm)).trans hgo
  have hW2 := below_setRow hW1 (Nat.le_trans hBw (Nat.le_refl _)) R1.toArray
  generalize W1.setRow N R1.toArray = W2 at hcp1 hgn2 hgo2 hW2
  have HRZ := Lib.hid hrz
  have HC1 := Lib.hid hcp1
  have HM : Hid (Nat.min (n - i) (n + 1 - (i + 1)) = n - i) := Lib.hid (Nat.min_eq_left (by omega))
  have HN := Lib.hid (show (rc Iq.cells (l.drop i)).length = Nat.min (n - i) (n + 1 - (i + 1)) * 5 by rw [hlD, HM.out])
  have HS : Hid (∀ j v, (rc Iq.cells (l.drop i))[j]? = some v → W2.drew.cell? ((⟨g, i * 5, none⟩ : Addr).add j) = some v) := Lib.hid (by
    intro j v hj
    rw [addr_add]
    show W2.cell? _ = _
    rw [cell_of_row W2 g _ cur 25 (0, 0) hgo2, ← Array.getElem?_toList]
    rw [← rc_drop Iq.len, List.getElem?_drop, ← ht, List.getElem?_take] at hj
    split at hj
    · exact hj
    · cases hj)
  have HF := Lib.hid (show (i + 1) * 5 + (rc Iq.cells (l.drop i)).length ≤ R1.length by rw [hlD, hR1l, hniM]; omega)
  have HG := Lib.hid (show W2.drew.heap[N]? = some (.cells R1.toArray 25 (0, 0)) from hgn2)
  have HD : Hid (Below B w W2.drew) := Lib.hid ⟨hW2.os, hW2.tape, hW2.output, hW2.size, hW2.block⟩
  have HGR := Lib.hid (grow_row ROW.toList x.cells (rc Iq.cells (l.drop i)) (rc Iq.cells l) (i * 5) ((i + 1) * 5) (G * 5) (by simpa using hRs) (by rw [hXl]; omega) (by rw [hlD, hniM]; omega) hRt)
  have HLD := Lib.hid hlD
  have HR1 := Lib.hid hR1
  have HBN := Lib.hid hBw
  have HGM := Lib.hid hGm
  have HGN := Lib.hid hGn
  have HNI := Lib.hid hniM
  have HLN := Lib.hid hn
  have hw1 : IntKind.i64.wrap ((i : Int) + 1) = (i : Int) + 1 := by rw [IntKind.wrap_i64]; omega
  have hw2 : IntKind.i64.wrap ((n : Int) + 1) = (n : Int) + 1 := by rw [IntKind.wrap_i64]; omega
  have hw3 : IntKind.i64.wrap ((n : Int) + 1 - (i : Int)) = (n : Int) + 1 - (i : Int) := by rw [IntKind.wrap_i64]; omega
  have hb1 : (0 : Int) ≤ (i : Int) + 1 := by omega
  have htn : ((i : Int) + 1).toNat = i + 1 := by omega
  have hb2 : ¬ (G = i + 1) := by omega
  have hb3 : (i : Int) ≤ (n : Int) := by omega
  have hb4 : ¬ (c = i) := by omega
  have hb5 : ¬ (G = i) := by omega
  have hz2 : ¬ ((i : Int) = (n : Int)) := by omega
  have hz3 : (c : Int) < (n : Int) + 1 := by omega
  have hin : i ≤ n := by omega
  unfold maxLen at hcm hGm
  clear hik hkk hold hROW hG hRs hRt hlT hlD hrz hgn hgo hgv hcp1 hgn2 hgo2 hR1 hR1l hXl hin1 hGmul hniM hsize hby hzs hinf hz hg hv ht hcs hGn hn hBw hW2 hW1 hown
  go_enter Tryd.func35, Tryd.ntmps35
  go_wp2_with (first | (at_builtin; refine Lib.wpList_append_run _ rfl _ _ _ _ rfl _ _ rfl rfl _ _ HRZ.out ?_) | fail)
  rw [HC1.out, Result.andThen_ok, Oper.upon_value]
  go_wp2_with fail
  go_region_law (refine step_copyN rfl (.tmp 50) (.tmp 53) 22 22 rfl 25 5 EIq.und info_size_iq N ((i + 1) * 5) (n + 1 - (i + 1)) (G - (i + 1)) ⟨g, i * 5, none⟩ (n - i) (c - i) (by simp [Act.eval, Act.put]; done) (by simp [Act.eval, Act.put]; done) R1 25 HG.out (rc Iq.cells (l.drop i)) HN.out HS.out HF.out (rc_one Iq.one _) B w HD.out HBN.out ?_; intro w4 hg4 hk4 hb4; rw [HM.out])
  go_wp2
  go_ret
  have hD := HLD.out
  have hgr := HGR.out
  rw [← HR1.out] at hgr
  refine ⟨⟨some ⟨N, 0, none⟩, G, rfl, ?_, .inr ⟨N, G, _, rfl, HBN.out, hg4.out, HGN.out, HGM.out, ?_, ?_⟩⟩, hb4⟩
  · have hn := HLN.out
    rw [rc_length Iq.len]
    simp
    omega
  · rw [List.size_toArray]
    exact hgr.1
  · have h2 := hgr.2
    have hN1 : (n + 1) * 5 = (i + 1) * 5 + (rc Iq.cells (l.drop i)).length := by
      have : i * 5 ≤ n * 5 := Nat.mul_le_mul_right _ hin
      rw [hD, HNI.out]
      omega
    rw [rc_append, rc_cons, ← rc_take Iq.len, ← h2, hN1]
theorem insert_iq (B g i n c vb vc : Nat) (l : List Iq) (x : Iq) (w : World) (hn : l.length = n) (hn6 : n ≤ 1000000) (hi : i < n) (hown : w.ownsRow B 25 5 (.slice (some ⟨g, 0, none⟩) n c) n (rc Iq.cells l))
    (hv : w.heap[vb]? = some (.cells x.cells.toArray 25 (0, 0))) (hne : vb ≠ g) (hBw : B ≤ w.heap.size) :
    Calls Tryd.prog 35 #[.slice (some ⟨g, 0, none⟩) n c, .int .i64 i, .slice (some ⟨vb, 0, none⟩) 1 vc] w fun e w' =>
      (∃ A' c', e = .returned (.slice A' (n + 1) c') ∧ w'.ownsRow B 25 5 (.slice A' (n + 1) c') (n + 1) (rc Iq.cells (l.take i ++ x :: l.drop i))) ∧ Below B w w' := by
  by_cases h : n + 1 ≤ c
  · exact insert_room_iq B g i n c vb vc l x w hn hi h hown hv hne
  · exact insert_grow_iq B g i n c vb vc l x w hn hn6 hi (by omega) hown hv hBw
end Go.Proofs.YtldnponbkhgijaaDoor
end
