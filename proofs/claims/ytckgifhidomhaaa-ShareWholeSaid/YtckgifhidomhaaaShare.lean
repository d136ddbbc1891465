/-
  The walks of layer 3, first part: rows that a call makes whole; who is ahead; below; few; SameNumbers.
-/
import Derived.Test.YtckgifhidomhaaaFix2
import Derived.Test.YtckgifhidomhaaaShareM2
namespace Go.Proofs.Ytckgifhidomhaaa
open Go.ChangeShapes Go.WideShapes Go.ChangeAt Go.RowKit
open Go.Sort (grow alloc_eq_grow grow_grow HoldsK cell?_grow frozen?_grow)
set_option linter.unusedVariables false
set_option linter.unusedSimpArgs false

/-- a row of the call's own, known by its cells -/
def Rw (w : World) (g : Nat) (xs : List Value) : Prop := g < w.heap.size ∧ Sl w (some ⟨g, 0, none⟩) xs ∧ ∀ i, w.frozen? ⟨g, i, none⟩ = false
section
variable {w w' : World} {g : Nat} {xs : List Value}
theorem Rw.below (h : Rw w g xs) (hb : Below w.heap.size w w') : Rw w' g xs := ⟨Nat.lt_of_lt_of_le h.1 hb.size, h.2.1.below hb, fun i => (hb.frozen (p := ⟨g, i, none⟩) h.1).trans (h.2.2 i)⟩
theorem Rw.alloc (h : Rw w g xs) (o : Obj) : Rw (w.alloc o) g xs := h.below ((Below.refl _ _).alloc (Nat.le_refl _) o)
theorem Rw.drew (h : Rw w g xs) : Rw w.drew g xs := h
theorem Rw.far (h : Rw w g xs) {p : Addr} (hp : p.block ≠ g) (v : Value) : Rw (w.setCell p v) g xs :=
  ⟨by simpa using h.1, h.2.1.far (fun b o e => by injection e with e; injection e with e1; omega) v, fun i => by simpa using h.2.2 i⟩
theorem Rw.set (h : Rw w g xs) {k : Nat} (hk : k < xs.length) (v : Value) : Rw (w.setCell ⟨g, k, none⟩ v) g (xs.set k v) :=
  ⟨by simpa using h.1, h.2.1.set0 hk v, fun i => by simpa using h.2.2 i⟩
theorem Rw.cell (h : Rw w g xs) {k : Nat} {v : Value} (hv : xs[k]? = some v) : w.cell? ⟨g, k, none⟩ = some v := by
  have hne : xs ≠ [] := by rintro rfl; simp at hv
  obtain ⟨b, o, e, hc⟩ := h.2.1 hne
  injection e with e; injection e with e1 e2
  subst e1; subst e2
  simpa using hc k v hv
theorem Rw.int {k : IntKind} {l : List Int} (h : Rw w g (ints k l)) {j : Nat} (hj : j < l.length) : w.cell? ⟨g, j, none⟩ = some (.int k l[j]) :=
  h.cell (by simp [ints, List.getElem?_eq_getElem hj])
theorem Rw.own {base : Nat} {e : TypeId} {size n c : Nat} (h : w.ownsRow base e size (.slice (some ⟨g, 0, none⟩) n c) n xs) (hn : 0 < n) : Rw w g xs := by
  obtain ⟨g', e', h1, h2, h3⟩ := own_at h hn
  injection e' with e'; injection e' with e'
  subst e'
  exact ⟨h2, Sl.of_own h, h3⟩
end
theorem ints_app (k : IntKind) (a b : List Int) : ints k (a ++ b) = ints k a ++ ints k b := by simp [ints]
theorem ints_set (k : IntKind) (l : List Int) (i : Nat) (v : Int) : (ints k l).set i (.int k v) = ints k (l.set i v) := by simp [ints, List.map_set]

theorem EI : Elem Try.prog 22 2 1 8 := Elem.mk' (z := .int .i64 0) (by kernel_rfl) (by kernel_rfl) (by decide) (by decide)
theorem EC : Elem Try.prog 102 106 2 16 := Elem.mk' (z := .agg #[.int .i64 0, .int .i64 0]) (by kernel_rfl) (by kernel_rfl) (by decide) (by decide)

/-- make at integers: a row of noughts -/
theorem wpList_zeros {w : World} {ops : Array Oper} {rest : List Oper} {o : Oper} {a : Act} {Q : Exit → Act → World → Prop} (hg : o.guard = none) (l c : Operand) (hop : o.op = Op.makeSlice 22 l c)
    (n : Nat) {kl kc : IntKind} {L C : Int} (hl : a.eval l = .int kl L) (hc : a.eval c = .int kc C) (hL : L = (n : Int)) (hC : C = (n : Int)) (hn : n ≤ 1000000)
    {base : Nat} (b4 : base ≤ w.heap.size)
    (h : ∀ w', w'.ownsRow base 2 1 (.slice (some ⟨w.heap.size, 0, none⟩) n n) n (ints .i64 (List.replicate n 0)) → Below w.heap.size w w' → wpList Try.prog ops Q rest (a.put o.dst (.slice (some ⟨w.heap.size, 0, none⟩) n n)) w') :
    wpList Try.prog ops Q (o :: rest) a w := by
  obtain ⟨i, hi, hz, hsize, hby⟩ := info_parts (show (Try.prog.info? 2).map (fun i => (i.zero, i.size, i.bytes)) = some (some (.int .i64 0), 1, 8) by kernel_rfl)
  refine wpList_make_full w hg l c _ hop base _ i _ 1 EI.und hi hz hsize kl kc L C n hl hc hL hC (by rw [hby]; omega) (by unfold maxLen; omega) b4 fun w' h1 h2 => h w' ?_ (below_of_grown h2 (Nat.le_refl _) (by simp))
  have e : (madeCells (Value.int .i64 0).cells (n * 1)).toList = ints .i64 (List.replicate n 0) := by
    apply List.ext_getElem
    · simp [ints, madeCells]
    · intro j h1 h2
      simp [ints, madeCells, Value.cells, Nat.mod_one]
  rwa [e] at h1

set_option maxHeartbeats 1000000 in
theorem ahead_any (x y : Clm) (W : World) :
    Calls Try.prog 68 #[.agg #[.int .i64 (x.1.val : Int), .int .i64 x.2], .agg #[.int .i64 (y.1.val : Int), .int .i64 y.2]] W fun e w' => e = .returned (.int .i64 (cfC x y)) ∧ ∃ q os', w' = grow (W.drewN q) os' := by
  obtain ⟨⟨i, hi⟩, a⟩ := x
  obtain ⟨⟨j, hj⟩, b⟩ := y
  by_cases h1 : b < a
  · have e : cfC ((⟨i, hi⟩ : Fin 64), a) (⟨j, hj⟩, b) = -1 := if_pos h1
    rw [e]
    clear e
    go_enter Try.func68, Try.ntmps68
    go_wp2
    go_ret
    exact ⟨rfl, 0, _, by rw [alloc_eq_grow, alloc_eq_grow, grow_grow]; rfl⟩
  · by_cases h2 : a < b
    · have e : cfC ((⟨i, hi⟩ : Fin 64), a) (⟨j, hj⟩, b) = 1 := (if_neg h1).trans (if_pos h2)
      rw [e]
      clear e
      go_enter Try.func68, Try.ntmps68
      go_wp2
      go_ret
      exact ⟨rfl, 0, _, by rw [alloc_eq_grow, alloc_eq_grow, grow_grow]; rfl⟩
    · have e : cfC ((⟨i, hi⟩ : Fin 64), a) (⟨j, hj⟩, b) = (i : Int) - (j : Int) := (if_neg h1).trans (if_neg h2)
      rw [e]
      clear e
      go_enter Try.func68, Try.ntmps68
      go_wp2
      go_ret
      exact ⟨rfl, 0, _, by rw [alloc_eq_grow, alloc_eq_grow, grow_grow]; rfl⟩

set_option maxHeartbeats 1000000 in
theorem below_any (t : Int) (A : Option Addr) (cap : Nat) (l : List Int) (w : World) (hl : l.length ≤ 1000000) (hs : Sl w A (ints .i64 l)) :
    Calls Try.prog 38 #[.int .i64 t, .slice A l.length cap] w fun e w' => e = .returned (.bool (decide (mnL t l < 0))) ∧ Below w.heap.size w w' := by
  go_enter Try.func38, Try.ntmps38
  go_wp2_with fail
  refine (fleast_any t A cap l w hl hs).mono ?_
  rintro e w1 ⟨rfl, hb1⟩
  by_cases h : mnL t l < 0
  · go_wp2_with fail
    go_ret
    exact ⟨by simp [h], hb1⟩
  · go_wp2_with fail
    go_ret
    exact ⟨by simp [h], hb1⟩

theorem few3_any (A : Option Addr) (cap : Nat) (l : List Int) (w : World) (hc : l.length ≤ cap ∧ cap ≤ maxLen) (hs : Sl w A (ints .i64 l)) :
    Calls Try.prog 10 #[.slice A l.length cap] w fun e w' => e = .returned (.slice A (l.take 30).length cap) ∧ Below w.heap.size w w' := by
  by_cases h : 30 < l.length
  · have hl : (l.take 30).length = 30 := by simp; omega
    rw [hl]
    have h40 : 30 ≤ cap := by omega
    cases A with
    | none => obtain ⟨b, o, e, _⟩ := hs.int (j := 0) (by omega); cases e
    | some ad =>
      go_enter Try.func10, Try.ntmps10
      go_wp2
      go_ret
      exact ⟨rfl, Below.refl _ _⟩
  · have hl : (l.take 30).length = l.length := by simp; omega
    rw [hl]
    go_enter Try.func10, Try.ntmps10
    go_wp2
    go_ret
    exact ⟨rfl, Below.refl _ _⟩

set_option maxHeartbeats 1000000 in
theorem same_any (A B : Option Addr) (ca cb : Nat) (l : List Int) (w : World) (hl : l.length ≤ 1000000) (ha : Sl w A (ints .i64 l)) (hb : Sl w B (ints .i64 l)) :
    Calls Try.prog 13 #[.slice A l.length ca, .slice B l.length cb] w fun e w' => e = .returned (.bool true) ∧ Below w.heap.size w w' := by
  go_enter Try.func13, Try.ntmps13
  go_wp2
  go_loopw [5] (fun i wr => ∃ k : Nat, k ≤ l.length ∧ i = .int .i64 k ∧ Below w.heap.size w wr) (fun i _ => l.length - (intOf i).toNat)
  case atStart => exact ⟨0, by omega, rfl, Below.refl _ _⟩
  case round =>
    obtain ⟨k, hk, rfl, hB⟩ := hrel
    by_cases hlt : k < l.length
    · obtain ⟨b, o, rfl, hz⟩ := (ha.below hB).int hlt
      obtain ⟨b2, o2, rfl, hz2⟩ := (hb.below hB).int hlt
      have hbr := World.block_lt_of_cell? _ _ hz
      have hbr2 := World.block_lt_of_cell? _ _ hz2
      generalize l[k] = x at *
      go_wp2
      go_quiet (fail)
      go_wp2
      go_roundw
      case rel => exact ⟨k + 1, by omega, by go_num, below_drewN hB _⟩
      case measure => simp [intOf]; omega
    · obtain rfl : k = l.length := by omega
      go_wp2
      go_ret
      exact ⟨rfl, hB⟩
end Go.Proofs.Ytckgifhidomhaaa
