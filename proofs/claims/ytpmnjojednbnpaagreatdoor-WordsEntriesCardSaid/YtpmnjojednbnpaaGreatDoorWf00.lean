import Derived.Below
import Derived.BigQuiet
import Derived.ChangeOld
import Derived.Deep.DeepFit
import Derived.Deep.QuietTactic
import Derived.Laws.AppendOwnNone
import Derived.Laws.CopyOwn
import Derived.Lib.Hide
import Derived.Maps.AppendAt
import Derived.OpenShut
import Derived.Outline
import Derived.ProofKit
import Derived.ShutString
import Derived.Test.YtpmnjojednbnpaaGreatDoorRows
import Derived.WalkKit
import Derived.WalkLawsBesides
import Derived.WalkSpells
import Derived.OrdersHeld
import Derived.Deep.RegionHeld
set_option maxHeartbeats 16000000
set_option maxRecDepth 100000
set_option linter.unusedVariables false
set_option linter.unusedSimpArgs false
namespace Go.Proofs.YtpmnjojednbnpaaGreatDoor
open Go.ChangeShapes Go.WideShapes Go.ChangeAt Go.RowKit
section
theorem addr_add (b o i : Nat) : (⟨b, o, none⟩ : Addr).add i = ⟨b, o + i, none⟩ := by
 unfold Addr.add;by_cases h : i = 0 <;> simp [h]
def Sl (w : World) (A : Option Addr) (xs : List Value) : Prop :=
  xs ≠ [] → ∃ b o, A = some ⟨b, o, none⟩ ∧ ∀ j u, xs[j]? = some u → w.cell? ⟨b, o + j, none⟩ = some u
section
variable {w w' : World} {A : Option Addr} {xs : List Value}
theorem Sl.nil : Sl w A [] := fun h => absurd rfl h
theorem Sl.at_ (h : Sl w A xs) {j : Nat} (hj : j < xs.length) : ∃ b o, A = some ⟨b, o, none⟩ ∧ w.cell? ⟨b, o + j, none⟩ = some xs[j] := by
 obtain ⟨b, o, hA, hc⟩ := h (by intro e; subst e; simp at hj);exact ⟨b, o, hA, hc j _ (List.getElem?_eq_getElem hj)⟩
theorem Sl.keep (h : Sl w A xs) (hk : ∀ p : Addr, p.block < w.heap.size → w'.cell? p = w.cell? p) : Sl w' A xs := by
 intro hne;obtain ⟨b, o, hA, hc⟩ := h hne;refine ⟨b, o, hA, fun j u hu => ?_⟩;have := hc j u hu;rw [hk _ (World.block_lt_of_cell? w _ this)];exact this
theorem Sl.below (h : Sl w A xs) (hb : Below w.heap.size w w') : Sl w' A xs := h.keep fun _ hp => hb.cell hp
theorem Sl.alloc (h : Sl w A xs) (o : Obj) : Sl (w.alloc o) A xs := h.keep fun p hp => World.cell?_alloc_lt w o p hp
theorem Sl.drew (h : Sl w A xs) : Sl w.drew A xs := h
theorem Sl.drewN (h : Sl w A xs) (n : Nat) : Sl (w.drewN n) A xs := h
theorem Sl.take (h : Sl w A xs) (n : Nat) : Sl w A (xs.take n) := by
 intro hne;obtain ⟨b, o, hA, hc⟩ := h (by rintro rfl; simp at hne);refine ⟨b, o, hA, fun j u hu => hc j u ?_⟩;rw [List.getElem?_take] at hu
 split at hu
 ·exact hu
 ·cases hu
theorem Sl.row (h : Sl w A xs) {b o : Nat} (hA : A = some ⟨b, o, none⟩) : ∀ j u, xs[j]? = some u → w.cell? ((⟨b, o, none⟩ : Addr).add j) = some u := by
 intro j u hu;rw [addr_add]
 by_cases hne : xs = []
 ·subst hne; simp at hu
 ·obtain ⟨b', o', hA', hc⟩ := h hne;rw [hA] at hA';injection hA' with hA';injection hA' with h1 h2;subst h1; subst h2;exact hc j u hu
theorem Sl.of_own {base : Nat} {e : TypeId} {size n c : Nat} (h : w.ownsRow base e size (.slice A n c) n xs) : Sl w A xs := by
 intro hne
 rcases h.2 with ⟨_, hn⟩ | ⟨g, cap, cur, hv, _, hg, _, _, _, ht⟩
 ·exact absurd (List.eq_nil_of_length_eq_zero (by rw [h.1, hn, Nat.zero_mul])) hne
 ·have hA : A = some ⟨g, 0, none⟩ := by injection hv
  subst hA;refine ⟨g, 0, rfl, fun j u hu => ?_⟩;rw [Nat.zero_add, cell_of_row w g j cur e (0, 0) hg];rw [← ht, List.getElem?_take] at hu
  split at hu
  ·simpa using hu
  ·cases hu
theorem Sl.far {p : Addr} (h : Sl w A xs) (hp : ∀ b o, A = some ⟨b, o, none⟩ → b ≠ p.block) (v : Value) : Sl (w.setCell p v) A xs := by
 intro hne;obtain ⟨b, o, hA, hc⟩ := h hne;refine ⟨b, o, hA, fun j u hu => ?_⟩;rw [World.cell?_setCell_other w _ _ _ (by intro e; exact hp b o hA (by rw [e]))];exact hc j u hu
theorem below_drewN {B : Nat} {a w : World} (h : Below B a w) (n : Nat) : Below B a (w.drewN n) := ⟨h.os, h.tape, h.output, h.size, h.block⟩
end

def by8 (l : List Nat) : List Value := l.map fun (n : Nat) => Value.int .u8 (n : Int)
theorem by8_length (l : List Nat) : (by8 l).length = l.length := by simp [by8]
theorem by8_append (a b : List Nat) : by8 (a ++ b) = by8 a ++ by8 b := by simp [by8]
theorem by8_take (l : List Nat) (n : Nat) : by8 (l.take n) = (by8 l).take n := by simp [by8, List.map_take]
theorem by8_one (l : List Nat) : ∀ u ∈ by8 l, u.oneCell' = true := by
 intro u hu;simp [by8] at hu;obtain ⟨n, _, rfl⟩ := hu;rfl
def Oct (l : List Nat) : Prop := ∀ x ∈ l, x < 256
theorem Oct.take {l : List Nat} (h : Oct l) (n : Nat) : Oct (l.take n) := fun x hx => h x (List.mem_of_mem_take hx)
theorem Oct.app {a b : List Nat} (h : Oct a) (k : Oct b) : Oct (a ++ b) := fun x hx => by
 rcases List.mem_append.1 hx with h' | h'
 ·exact h x h'
 ·exact k x h'
theorem Oct.at_ {l : List Nat} (h : Oct l) {k : Nat} (hk : k < l.length) : l[k] < 256 := h _ (List.getElem_mem hk)
theorem Sl.byte {w : World} {A : Option Addr} {l : List Nat} (h : Sl w A (by8 l)) {j : Nat} (hj : j < l.length) :
  ∃ b o, A = some ⟨b, o, none⟩ ∧ w.cell? ⟨b, o + j, none⟩ = some (.int .u8 (l[j] : Int)) := by
 obtain ⟨b, o, hA, hc⟩ := h.at_ (j := j) (by rw [by8_length]; exact hj);exact ⟨b, o, hA, by simpa [by8] using hc⟩
theorem take_snoc {α : Type} (l : List α) (k : Nat) (h : k < l.length) : l.take (k + 1) = l.take k ++ [l[k]] := by
 rw [List.take_succ_eq_append_getElem h]
def Bk (w : World) (g : Nat) (cs : Array Value) : Prop := g < w.heap.size ∧ ∀ o, w.cell? ⟨g, o, none⟩ = cs[o]?
section
variable {w w' : World} {g : Nat} {cs : Array Value}
theorem Bk.new (w : World) (cs : Array Value) (t : TypeId) : Bk (w.alloc (.cells cs t)) w.heap.size cs := ⟨by simp, fun o => World.cell?_alloc_new w cs t o⟩
theorem Bk.below (h : Bk w g cs) (hb : Below w.heap.size w w') : Bk w' g cs := ⟨Nat.lt_of_lt_of_le h.1 hb.size, fun o => (hb.cell (p := ⟨g, o, none⟩) h.1).trans (h.2 o)⟩
theorem Bk.alloc (h : Bk w g cs) (o : Obj) : Bk (w.alloc o) g cs := h.below ((Below.refl _ _).alloc (Nat.le_refl _) o)
theorem Bk.drew (h : Bk w g cs) : Bk w.drew g cs := h
theorem Bk.drewN (h : Bk w g cs) (n : Nat) : Bk (w.drewN n) g cs := h
end
theorem since_step {W0 W W' : World} (h : Below W0.heap.size W0 W) (k : Below W.heap.size W W') : Below W0.heap.size W0 W' := h.trans (k.mono h.size)
theorem since_alloc {W0 W : World} (h : Below W0.heap.size W0 W) (o : Obj) : Below W0.heap.size W0 (W.alloc o) := h.alloc h.size o
theorem cell_set (w : World) (a b : Addr) (v : Value) : (w.setCell a v).cell? b = if a = b then (w.cell? a).map (fun _ => v) else w.cell? b := by
 by_cases h : a = b
 ·subst h;rw [if_pos rfl]
  cases hc : w.cell? a with
  | some u => exact World.cell?_setCell_same w a v hc
  | none =>
   simp only [Option.map_none];unfold World.cell? World.setCell at *;simp only [Array.getElem?_modify] at *
   cases hh : w.heap[a.block]? with
   | none => simp
   | some o =>
    rw [hh] at hc
    cases o with
    | cells c e f =>
     simp only at hc;simp;intro hs
     rcases Nat.lt_or_ge a.off c.size with h1 | h1
     ·rw [hs, Array.getElem?_eq_getElem h1] at hc; simp at hc
     ·split
      ·exact h1
      ·simpa using h1
    | _ => simp
 ·rw [if_neg h];exact World.cell?_setCell_other w a b v h
theorem retB {a b : Bool} (h : a = b) : Ending.returned (.bool a) = .returned (.bool b) := by rw [h]
theorem intE {k : IntKind} {a b : Int} (h : a = b) : Value.int k a = .int k b := by rw [h]
def IsRow (k : IntKind) (w : World) (a : Option Addr) (len cap : Nat) (zs : List Int) : Prop :=
  (a = none ∧ len = 0 ∧ cap = 0 ∧ zs = []) ∨
  ∃ x, a = some x ∧ len ≤ cap ∧ cap ≤ maxLen ∧ zs.length = cap ∧ (∀ i, i < zs.length → w.cell? (x.add i) = some (.int k (zs.getD i 0))) ∧ ∀ n ∈ zs, (Lit.int k n).wf = true
def ints (k : IntKind) (l : List Int) : List Value := l.map fun n => Value.int k n
theorem ints_length (k : IntKind) (l : List Int) : (ints k l).length = l.length := by simp [ints]
theorem Sl.int {w : World} {A : Option Addr} {k : IntKind} {l : List Int} (h : Sl w A (ints k l)) {j : Nat} (hj : j < l.length) :
  ∃ b o, A = some ⟨b, o, none⟩ ∧ w.cell? ⟨b, o + j, none⟩ = some (.int k l[j]) := by
 obtain ⟨b, o, hA, hc⟩ := h.at_ (j := j) (by rw [ints_length]; exact hj);exact ⟨b, o, hA, by simpa [ints] using hc⟩
theorem IsRow.ints {k : IntKind} {w : World} {a : Option Addr} {len cap : Nat} {zs : List Int} (h : IsRow k w a len cap zs) :
  ∃ l : List Int, l.length = len ∧ len ≤ cap ∧ cap ≤ maxLen ∧ Sl w a (ints k l) ∧ ∀ n ∈ l, (Lit.int k n).wf = true := by
 rcases h with ⟨rfl, rfl, rfl, rfl⟩ | ⟨x, rfl, hl, hm, hz, hcell, hwf⟩
 ·exact ⟨[], rfl, Nat.le_refl _, by decide, Sl.nil, fun n hn => by cases hn⟩
 ·refine ⟨zs.take len, by simp; omega, hl, hm, ?_, fun n hn => hwf n (List.mem_of_mem_take hn)⟩;intro hne
  have h0 : 0 < len := by
   rcases Nat.eq_zero_or_pos len with h | h
   ·subst h; simp [Go.Proofs.YtpmnjojednbnpaaGreatDoor.ints] at hne
   ·exact h
  obtain ⟨b, o, spot⟩ := x;have hc := hcell 0 (by omega);have hspot : spot = none := by simpa [Addr.add] using World.cell?_spot hc
  subst hspot;refine ⟨b, o, rfl, fun j u hu => ?_⟩;simp only [Go.Proofs.YtpmnjojednbnpaaGreatDoor.ints, List.getElem?_map, List.getElem?_take] at hu
  by_cases hj : j < len
  ·rw [if_pos hj] at hu;have hjz : j < zs.length := by omega
   have := hcell j hjz;rw [addr_add] at this;rw [this];rw [List.getElem?_eq_getElem hjz] at hu;rw [List.getD_eq_getElem?_getD, List.getElem?_eq_getElem hjz];simpa using hu
  ·rw [if_neg hj] at hu;simp at hu
theorem IsRow.bytes {w : World} {a : Option Addr} {len cap : Nat} {zs : List Int} (h : IsRow .u8 w a len cap zs) :
  ∃ l : List Nat, l.length = len ∧ len ≤ cap ∧ cap ≤ maxLen ∧ Sl w a (by8 l) ∧ Oct l := by
 obtain ⟨l, hl, hc, hm, hs, hw⟩ := h.ints;have hb : ∀ n ∈ l, 0 ≤ n ∧ n ≤ 255 := fun n hn => by simpa [Lit.wf, IntKind.min, IntKind.max, IntKind.signed, IntKind.bits] using hw n hn
 have e : by8 (l.map Int.toNat) = Go.Proofs.YtpmnjojednbnpaaGreatDoor.ints .u8 l := by
  simp only [by8, Go.Proofs.YtpmnjojednbnpaaGreatDoor.ints, List.map_map]
  apply List.map_congr_left
  intro n hn;have := hb n hn
  show Value.int .u8 (n.toNat : Int) = _
  rw [Int.toNat_of_nonneg this.1]
 refine ⟨l.map Int.toNat, by simpa using hl, hc, hm, by rw [e]; exact hs, ?_⟩;intro x hx;simp at hx;obtain ⟨n, hn, rfl⟩ := hx;have := hb n hn;omega
theorem bd_u8 {a : Int} (h : (Lit.int .u8 a).wf = true) : 0 ≤ a ∧ a < 256 := by
 have : 0 ≤ a ∧ a ≤ 255 := by simpa [Lit.wf, IntKind.min, IntKind.max, IntKind.signed, IntKind.bits] using h
 omega
theorem bd_i64 {a : Int} (h : (Lit.int .i64 a).wf = true) : -9223372036854775808 ≤ a ∧ a ≤ 9223372036854775807 := by
 simpa [Lit.wf, IntKind.min, IntKind.max, IntKind.signed, IntKind.bits] using h
structure Elem (P : Program) (t e : TypeId) (size bytes : Nat) : Prop where
  und : P.underlying t = some (.slice e)
  info : ∃ (i : TypeInfo) (z : Value), P.info? e = some i ∧ i.zero = some z ∧ i.size = size ∧ i.bytes = bytes ∧ z.cells.size = size
  pos : 0 < size
theorem Elem.mk' {P : Program} {t e : TypeId} {size bytes : Nat} {z : Value} (h1 : P.underlying t = some (.slice e)) (h2 : (P.info? e).map (fun i => (i.zero, i.size, i.bytes)) = some (some z, size, bytes))
  (h3 : z.cells.size = size) (h4 : 0 < size) : Elem P t e size bytes := by
 obtain ⟨i, a, b, c, d⟩ := info_parts h2;exact ⟨h1, ⟨i, z, a, b, c, d, h3⟩, h4⟩
section
variable {P : Program} {w : World}
theorem own_nil (base : Nat) (e : TypeId) (size : Nat) : w.ownsRow base e size (.slice none 0 0) 0 [] := ⟨by simp, .inl ⟨rfl, rfl⟩⟩
theorem own_ge {base : Nat} {e : TypeId} {size n : Nat} {v : Value} {xs : List Value} (h : w.ownsRow base e size v n xs) : ∀ k, v.ownBlock = some k → base ≤ k := by
 intro k hk
 rcases h.2 with ⟨rfl, _⟩ | ⟨g, cap, cur, rfl, hg, _⟩
 ·simp [Value.ownBlock] at hk
 ·simp [Value.ownBlock] at hk;omega
theorem below_of_grown {base : Nat} {w' : World} {row : Option Nat} (hg : w.grownBy w' row) (hB : base ≤ w.heap.size) (hr : ∀ k, row = some k → base ≤ k) : Below base w w' :=
 (Below.refl base w).grown hg hB hr
theorem own_form {base : Nat} {e : TypeId} {size n : Nat} {v : Value} {xs : List Value} (h : w.ownsRow base e size v n xs) : ∃ A c, v = .slice A n c := by
 rcases h.2 with ⟨rfl, rfl⟩ | ⟨g, cap, cur, rfl, _⟩
 ·exact ⟨_, _, rfl⟩
 ·exact ⟨_, _, rfl⟩
theorem own_at {base : Nat} {e : TypeId} {size n c : Nat} {A : Option Addr} {xs : List Value} (h : w.ownsRow base e size (.slice A n c) n xs) (hn : 0 < n) :
  ∃ g, A = some ⟨g, 0, none⟩ ∧ base ≤ g ∧ g < w.heap.size ∧ ∀ i, w.frozen? ⟨g, i, none⟩ = false := by
 rcases h.2 with ⟨_, h0⟩ | ⟨g, cap, cur, hv, hg, hh, _⟩
 ·omega
 ·injection hv with e1;subst e1;refine ⟨g, rfl, hg, ?_, fun i => by simp [World.frozen?, hh]⟩
  rcases Nat.lt_or_ge g w.heap.size with hlt | hge
  ·exact hlt
  ·rw [Array.getElem?_eq_none hge] at hh; cases hh
theorem Sl.newMark (w : World) (cs : List Value) (e : TypeId) (fr : Nat × Nat) : Sl (w.alloc (.cells cs.toArray e fr)) (some ⟨w.heap.size, 0, none⟩) cs := by
 intro _;refine ⟨_, _, rfl, fun j u hu => ?_⟩;rw [Nat.zero_add, World.cell?_alloc_mark];simpa using hu
theorem Sl.new_ (w : World) (cs : List Value) (e : TypeId) : Sl (w.alloc (.cells cs.toArray e)) (some ⟨w.heap.size, 0, none⟩) cs := Sl.newMark w cs e _
theorem Sl.new1 (w : World) (o : Obj) (cs : List Value) (e : TypeId) : Sl ((w.alloc o).alloc (.cells cs.toArray e)) (some ⟨w.heap.size + 1, 0, none⟩) cs := by
 have := Sl.new_ (w.alloc o) cs e
 rwa [World.size_alloc] at this
theorem run_app {t ty e : TypeId} {size bytes : Nat} (E : Elem P t e size bytes) {base n m c d : Nat} {A B : Option Addr} {xs news : List Value}
  (hown : w.ownsRow base e size (.slice A n c) n xs) (hl : news.length = m * size) (hr : Sl w B news) (h1 : ∀ u ∈ news, u.oneCell' = true)
  (h63 : n + m ≤ maxLen) (hb : (n + m) * bytes ≤ 140737488355328) (hbase : base ≤ w.heap.size) :
  ∃ A' c' w', (Builtin.append_ #[t, t] ty #[.slice A n c, .slice B m d]).run P w = .ok (.slice A' (n + m) c') w' ∧ w'.ownsRow base e size (.slice A' (n + m) c') (n + m) (xs ++ news) ∧
   w.grownBy w' (Value.slice A n c).ownBlock ∧ Below base w w' := by
 obtain ⟨i, z, hi, hz, hsize, hby, hzs⟩ := E.info
 by_cases hm : m = 0
 ·subst hm;have hn : news = [] := List.eq_nil_of_length_eq_zero (by simpa using hl);subst hn
  rcases hB : B with _ | ad
  ·refine ⟨A, c, w, ?_, by simpa using hown, World.grownBy.refl w _, Below.refl _ _⟩
   rcases hown.2 with ⟨hv, h0⟩ | ⟨g, cap, cur, hv, _, _, hnc, _⟩
   ·rw [hv];subst h0;injection hv with a1 a2 a3;subst a1; subst a3;simp [Builtin.append_, run_underlying E.und, sizeOf, typeInfo, hi, Builtin.lenOf, Builtin.firstCells]
   ·injection hv with a1 a2 a3;subst a1; subst a3;simp [Builtin.append_, run_underlying E.und, sizeOf, typeInfo, hi, Builtin.lenOf, Builtin.firstCells, hnc, storeCells]
  ·obtain ⟨v', w', hrun, h2, h3, _, h5⟩ := run_append_own_at (P := P) w base t ty e i z size bytes E.und hi hz hsize hby hzs E.pos _ n xs hown ad 0 d [] (by simp) (by simp) (by simp) h63 hb hbase;obtain ⟨A', c', rfl⟩ := own_form h2;exact ⟨A', c', w', hrun, h2, h3, below_of_grown h3 hbase (own_ge hown)⟩
 ·have hne : news ≠ [] := by
   intro h0;rw [h0, List.length_nil] at hl
   rcases Nat.mul_eq_zero.1 hl.symm with h | h
   ·exact hm h
   ·have := E.pos; omega
  obtain ⟨b, o, rfl, hc⟩ := hr hne
  obtain ⟨v', w', hrun, h2, h3, _, h5⟩ := run_append_own_at (P := P) w base t ty e i z size bytes E.und hi hz hsize hby hzs E.pos _ n xs hown ⟨b, o, none⟩ m d news hl
   (fun j u hu => by rw [addr_add]; exact hc j u hu) h1 h63 hb hbase
  obtain ⟨A', c', rfl⟩ := own_form h2;exact ⟨A', c', w', hrun, h2, h3, below_of_grown h3 hbase (own_ge hown)⟩
theorem wp_app {o : Oper} {a : Act} {K : Act → World → Prop} {Q : Exit → Act → World → Prop} (s x : Operand) {t e : TypeId} {size bytes : Nat}
  (ho : o.op = .call { callee := .builtin .append, args := #[s, x], argTypes := #[t, t] }) (E : Elem P t e size bytes) {base n m c d : Nat} {A B : Option Addr} {xs news : List Value}
  (hs : a.eval s = .slice A n c) (hx : a.eval x = .slice B m d)
  (hown : w.ownsRow base e size (.slice A n c) n xs) (hl : news.length = m * size) (hr : Sl w B news) (h1 : ∀ u ∈ news, u.oneCell' = true)
  (h63 : n + m ≤ maxLen) (hb : (n + m) * bytes ≤ 140737488355328) (hbase : base ≤ w.heap.size)
  (h : ∀ A' c' w', w'.ownsRow base e size (.slice A' (n + m) c') (n + m) (xs ++ news) → w.grownBy w' (Value.slice A n c).ownBlock → Below base w w' → K (a.put o.dst (.slice A' (n + m) c')) w') : o.wp P a w K Q := by
 obtain ⟨A', c', w', hrun, h2, h3, h4⟩ := run_app (P := P) (w := w) (ty := o.type) E (d := d) hown hl hr h1 h63 hb hbase;unfold Oper.wp execOp;simp only [ho, resolve, invoke, builtin, Sem.run_bind, Sem.run_pure, Result.andThen_ok, List.map_toArray, List.map_cons, List.map_nil, hs, hx, hrun];exact h A' c' w' h2 h3 h4
theorem wpList_app {ops : Array Oper} {rest : List Oper} {o : Oper} {a : Act} {Q : Exit → Act → World → Prop} (hgd : o.guard = none) (s x : Operand) {t e : TypeId} {size bytes : Nat}
  (ho : o.op = .call { callee := .builtin .append, args := #[s, x], argTypes := #[t, t] }) (E : Elem P t e size bytes) {base n m c d : Nat} {A B : Option Addr} {xs news : List Value}
  (hs : a.eval s = .slice A n c) (hx : a.eval x = .slice B m d)
  (hown : w.ownsRow base e size (.slice A n c) n xs) (hl : news.length = m * size) (hr : Sl w B news) (h1 : ∀ u ∈ news, u.oneCell' = true)
  (h63 : n + m ≤ maxLen) (hb : (n + m) * bytes ≤ 140737488355328) (hbase : base ≤ w.heap.size)
  (h : ∀ A' c' w', w'.ownsRow base e size (.slice A' (n + m) c') (n + m) (xs ++ news) → w.grownBy w' (Value.slice A n c).ownBlock → Below base w w' → wpList P ops Q rest (a.put o.dst (.slice A' (n + m) c')) w') :
  wpList P ops Q (o :: rest) a w :=
 wpList_plain hgd fun _ hK => wp_app s x ho E hs hx hown hl hr h1 h63 hb hbase fun A' c' w' h2 h3 h4 => hK _ _ (h A' c' w' h2 h3 h4)
end

section
variable {P : Program} {w : World}
end

theorem own : ownKnob Tryz.prog.godebug = none := by kernel_rfl
theorem laidOut : laidOutB Tryz.prog = true := by kernel_rfl
theorem hJz {p : Prop} (h : p) : _root_.Go.RowKit.Hid p := h
theorem pqZ : (∀ (a : _root_.Go.Act) (d : _root_.Go.Tmp) (v : _root_.Go.Value), a.put (some d) v = { tmps := a.tmps.setIfInBounds d v, defers := a.defers }) ∧ (∀ (a : _root_.Go.Act) (v : _root_.Go.Value), a.put none v = a) ∧ (∀ (l : List _root_.Go.Value) (i : Nat) (a : _root_.Go.Value), l.toArray.setIfInBounds i a = (l.set i a).toArray) ∧ (∀ (a b : _root_.Go.Value) (l : List _root_.Go.Value), (a :: l).set 0 b = b :: l) ∧ (∀ (a b : _root_.Go.Value) (l : List _root_.Go.Value) (n : Nat), (a :: l).set (n + 1) b = a :: l.set n b) :=
 ⟨fun _ _ _ => rfl, fun _ _ => rfl, fun _ _ _ => by simp, fun _ _ _ => rfl, fun _ _ _ _ => rfl⟩
theorem tkZ {P : _root_.Go.Program} {ops : Array _root_.Go.Oper} {Q : _root_.Go.Exit → _root_.Go.Act → _root_.Go.World → Prop} {md : _root_.Go.Region.Mode} {S : _root_.Go.World → Prop} {i : Nat} {oi : _root_.Go.Oper} {v : _root_.Go.Value} {fuel : Nat} {listed : Array Bool} {a : _root_.Go.Act} {w : _root_.Go.World} (hi : ops[i]? = some oi)
  (hb : (_root_.Go.Region.noSelect ops && _root_.Go.Region.free md ops listed i && (_root_.Go.Region.ready md ops listed).contains i) = true)
  (hQ : ∀ c a w, Q (.panic c) (a.put oi.dst v) w → Q (.panic c) a w) (hy : _root_.Go.YieldsIf P ops S oi v a) (hS : S w)
  (h : _root_.Go.wpAnyH P md ops Q S fuel (listed.setIfInBounds i true) (a.put oi.dst v) w) : _root_.Go.wpAnyH P md ops Q S (fuel + 1) listed a w := by
 rw [Bool.and_eq_true, Bool.and_eq_true] at hb;exact _root_.Go.wpAnyH_take hi hb.1.1 hb.1.2 hb.2 hQ hy hS h
theorem tkI {P : _root_.Go.Program} {ops : Array _root_.Go.Oper} {Q : _root_.Go.Exit → _root_.Go.Act → _root_.Go.World → Prop} {md : _root_.Go.Region.Mode} {S : _root_.Go.World → Prop} {v : _root_.Go.Value} {fuel : Nat} {listed : Array Bool} {a : _root_.Go.Act} {w : _root_.Go.World} (i d : Nat) {op : _root_.Go.Op} {type : _root_.Go.TypeId} {pos : String} {after : Array _root_.Go.Edge} {guard : Option (_root_.Nat × _root_.Bool)}
  (hi : ops[i]? = some ⟨some d, op, type, pos, after, guard⟩)
  (hy : ∀ w', S w' → (_root_.Go.execOp a.eval (⟨some d, op, type, pos, after, guard⟩ : _root_.Go.Oper)).run P w' = .ok (.value v) w') (hS : S w)
  (h : _root_.Go.wpAnyH P md ops Q S fuel (listed.setIfInBounds i true) (a.put (some d) v) w)
  (hb : (_root_.Go.Region.noSelect ops && _root_.Go.Region.free md ops listed i && (_root_.Go.Region.ready md ops listed).contains i) = true := by kernel_rfl)
  (hQ : ∀ c a w, Q (.panic c) (a.put (some d) v) w → Q (.panic c) a w := by exact fun _ _ _ h => h)
  (hg : _root_.Go.Region.wanted ⟨some d, op, type, pos, after, guard⟩ (_root_.Go.yielded ops a.tmps) = true := by kernel_rfl) : _root_.Go.wpAnyH P md ops Q S (fuel + 1) listed a w :=
 tkZ hi hb hQ (Or.inl ⟨hg, hy⟩) hS h
theorem tkJ {P : _root_.Go.Program} {ops : Array _root_.Go.Oper} {Q : _root_.Go.Exit → _root_.Go.Act → _root_.Go.World → Prop} {md : _root_.Go.Region.Mode} {S : _root_.Go.World → Prop} {v : _root_.Go.Value} {fuel : Nat} {listed : Array Bool} {a : _root_.Go.Act} {w : _root_.Go.World} (i d : Nat) {op : _root_.Go.Op} {type : _root_.Go.TypeId} {pos : String} {after : Array _root_.Go.Edge} {guard : Option (_root_.Nat × _root_.Bool)}
  (hi : ops[i]? = some ⟨some d, op, type, pos, after, guard⟩)
  (hy : ∀ w', (_root_.Go.execOp a.eval (⟨some d, op, type, pos, after, guard⟩ : _root_.Go.Oper)).run P w' = .ok (.value v) w') (hS : S w)
  (h : _root_.Go.wpAnyH P md ops Q S fuel (listed.setIfInBounds i true) (a.put (some d) v) w)
  (hb : (_root_.Go.Region.noSelect ops && _root_.Go.Region.free md ops listed i && (_root_.Go.Region.ready md ops listed).contains i) = true := by kernel_rfl)
  (hQ : ∀ c a w, Q (.panic c) (a.put (some d) v) w → Q (.panic c) a w := by exact fun _ _ _ h => h)
  (hg : _root_.Go.Region.wanted ⟨some d, op, type, pos, after, guard⟩ (_root_.Go.yielded ops a.tmps) = true := by kernel_rfl) : _root_.Go.wpAnyH P md ops Q S (fuel + 1) listed a w :=
 tkZ hi hb hQ (Or.inl ⟨hg, fun w _ => hy w⟩) hS h
theorem tkO {P : _root_.Go.Program} {ops : Array _root_.Go.Oper} {Q : _root_.Go.Exit → _root_.Go.Act → _root_.Go.World → Prop} {md : _root_.Go.Region.Mode} {S : _root_.Go.World → Prop} {fuel : Nat} {listed : Array Bool} {a : _root_.Go.Act} {w : _root_.Go.World} (i d : Nat) {op : _root_.Go.Op} {type : _root_.Go.TypeId} {pos : String} {after : Array _root_.Go.Edge} {guard : Option (_root_.Nat × _root_.Bool)}
  (hi : ops[i]? = some ⟨some d, op, type, pos, after, guard⟩)
  (hb : (_root_.Go.Region.noSelect ops && _root_.Go.Region.free md ops listed i && (_root_.Go.Region.ready md ops listed).contains i) = true)
  (hg : _root_.Go.Region.wanted ⟨some d, op, type, pos, after, guard⟩ (_root_.Go.yielded ops a.tmps) = false) (hS : S w)
  (h : _root_.Go.wpAnyH P md ops Q S fuel (listed.setIfInBounds i true) (a.put (some d) _root_.Go.undef) w)
  (hQ : ∀ c a w, Q (.panic c) (a.put (some d) _root_.Go.undef) w → Q (.panic c) a w := by exact fun _ _ _ h => h) : _root_.Go.wpAnyH P md ops Q S (fuel + 1) listed a w :=
 tkZ hi hb hQ (Or.inr ⟨hg, rfl⟩) hS h
theorem rdZ {P : _root_.Go.Program} {ops : Array _root_.Go.Oper} {Q : _root_.Go.Exit → _root_.Go.Act → _root_.Go.World → Prop} {md : _root_.Go.Region.Mode} {S : _root_.Go.World → Prop} {fuel : Nat} {listed : Array Bool} {a : _root_.Go.Act} {w : _root_.Go.World} (i d : Nat) {op : _root_.Go.Op} {type : _root_.Go.TypeId} {pos : String} {after : Array _root_.Go.Edge} {guard : Option (_root_.Nat × _root_.Bool)}
  (ho : ops[i]? = some ⟨some d, op, type, pos, after, guard⟩) (hr : _root_.Go.Region.ready md ops listed = [i])
  (h : ∀ K' : _root_.Go.Act → _root_.Go.World → Prop, _root_.Go.Shut (∀ a w, S w → (S w → _root_.Go.wpAnyH P md ops Q S fuel (listed.setIfInBounds i true) a w) → K' a w) → if _root_.Go.Region.wanted (⟨some d, op, type, pos, after, guard⟩ : _root_.Go.Oper) (_root_.Go.yielded ops a.tmps) = true then _root_.Go.Oper.wp P ⟨some d, op, type, pos, after, guard⟩ a w K' Q else K' (a.put (some d) _root_.Go.undef) w) : _root_.Go.wpAnyH P md ops Q S (fuel + 1) listed a w :=
 _root_.Go.wpAnyH_ready hr (by simp) (_root_.Go.AllReadyH.cons ho h _root_.Go.AllReadyH.nil)
end
end Go.Proofs.YtpmnjojednbnpaaGreatDoor
