/-
  The walks of layer 3, second part: the sort of the claims; parts.
-/
import Derived.Test.YtckgifhidomhaaaShare
import Derived.Test.YtckgifhidomhaaaFix9
import Derived.Test.YtckgifhidomhaaaSort3
namespace Go.Proofs.Ytckgifhidomhaaa
open Go.ChangeShapes Go.WideShapes Go.ChangeAt Go.RowKit
open Go.Sort (grow alloc_eq_grow grow_grow HoldsK cell?_grow frozen?_grow flatK PermIn SortedIn)
set_option linter.unusedVariables false
set_option linter.unusedSimpArgs false

theorem below_sort {α : Type} [Inhabited α] {B : Nat} {w0 W : World} (h : Below B w0 W) (enc : α → List Value) (k blk off m : Nat) (d : Array α) (os : Array Obj) (hb : B ≤ blk) (hlt : blk < W.heap.size) :
    Below B w0 (sortWorldK enc k W blk off m d os) := by
  refine h.trans ⟨rfl, rfl, rfl, ?_, ?_⟩
  · simp [sortWorldK, grow, Go.Sort.putRowK, Go.Sort.putRow, Go.Sort.mapBlock, Go.Sort.ahead]
  · intro i hi
    show ((W.heap.modify blk _) ++ os)[i]? = _
    rw [Array.getElem?_append_left (by simp; omega), Array.getElem?_modify, if_neg (by omega)]
theorem Rw.sort {α : Type} [Inhabited α] {W : World} {g : Nat} {xs : List Value} (h : Rw W g xs) (enc : α → List Value) (k blk off m : Nat) (d : Array α) (os : Array Obj) (hne : g ≠ blk) (hlt : blk < W.heap.size) :
    Rw (sortWorldK enc k W blk off m d os) g xs := by
  have hsz : g < (Go.Sort.putRowK enc k (Go.Sort.ahead W m) blk off d).heap.size := by simpa [Go.Sort.putRowK, Go.Sort.putRow, Go.Sort.mapBlock, Go.Sort.ahead] using h.1
  refine ⟨?_, ?_, fun i => ?_⟩
  · have := hsz
    simp [sortWorldK, grow]
    omega
  · intro hx
    obtain ⟨b, o, e, hc⟩ := h.2.1 hx
    injection e with e; injection e with e1 e2
    subst e1; subst e2
    refine ⟨g, 0, rfl, fun j u hu => ?_⟩
    rw [cell?_sortWorldK_other enc k W blk off m d os ⟨g, 0 + j, none⟩ hne h.1]
    exact hc j u hu
  · unfold sortWorldK
    rw [frozen?_grow _ _ _ hsz]
    unfold Go.Sort.putRowK
    rw [Go.Sort.frozen?_putRow, Go.Sort.frozen?_ahead]
    exact h.2.2 i

theorem clms_at (r : List Int) {i : Nat} (hi : i < r.length) : (clms r)[i]! = ((⟨i % 64, Nat.mod_lt _ (by omega)⟩ : Fin 64), r.getD i 0) := by
  rw [getElem!_pos _ i (by rw [clms_size]; exact hi)]
  simp [clms]
theorem holds_of {W : World} {g : Nat} {ys : List Value} (r : List Int) (h64 : r.length ≤ 64) (h : Rw W g ys) (hc : ∀ i, i < r.length → ys[i * 2]? = some (.int .i64 (i : Int)) ∧ ys[i * 2 + 1]? = some (.int .i64 (r.getD i 0))) : HoldsK encC 2 W g 0 (clms r) := by
  intro j hj
  rw [Go.Sort.size_flatK, clms_size] at hj
  refine ⟨?_, by rw [Nat.zero_add]; exact h.2.2 j⟩
  rw [Nat.zero_add, Go.Sort.get_flatK _ _ _ _ (by rw [clms_size]; exact hj), clms_at r (show j / 2 < r.length by omega)]
  have h1 := hc (j / 2) (by omega)
  rcases Nat.mod_two_eq_zero_or_one j with e | e
  · rw [e, h.cell (show ys[j]? = some (.int .i64 ((j / 2 : Nat) : Int)) by rw [← h1.1]; congr 1; omega)]
    simp [encC, Nat.mod_eq_of_lt (show j / 2 < 64 by omega)]
  · rw [e, h.cell (show ys[j]? = some (.int .i64 (r.getD (j / 2) 0)) by rw [← h1.2]; congr 1; omega)]
    simp [encC]

set_option maxHeartbeats 1000000 in
theorem sort_any (r : List Int) (h64 : r.length ≤ 64) (g cap : Nat) (ys : List Value) (W : World) (h : Rw W g ys) (hc : ∀ i, i < r.length → ys[i * 2]? = some (.int .i64 (i : Int)) ∧ ys[i * 2 + 1]? = some (.int .i64 (r.getD i 0))) :
    Calls Try.prog 67 #[.slice (some ⟨g, 0, none⟩) r.length cap, .func (.func 68) #[] #[]] W fun e w' =>
      e = .returned (.tuple #[]) ∧ (∃ s : List Nat, Order r s ∧ s.length = r.length ∧ ∀ (i k : Nat), s[i]? = some k → w'.cell? ⟨g, i * 2, none⟩ = some (.int .i64 (k : Int)) ∧ ∃ x, w'.cell? ⟨g, i * 2 + 1, none⟩ = some (.int .i64 x)) ∧
      (∀ B w0, B ≤ g → Below B w0 W → Below B w0 w') ∧ (∀ g' xs, g' ≠ g → Rw W g' xs → Rw w' g' xs) ∧ g < w'.heap.size := by
  have hH := holds_of r h64 h hc
  have eg : ∀ args w, (callFunc 68 args).run Try.prog w = .ok (.enter 68 args) w := enters_of Try.func68 (by kernel_rfl) rfl
  have hcon := AnyQ.slices_SortFunc Try.sortClaim 2 Try.isAgg106 Try.sizeOf106 encC (fun _ => rfl) (fun x v hv => by simp [encC] at hv; rcases hv with rfl | rfl <;> rfl) cfC swoC 68 #[] g 0 cap (clms r) W eg
    (fun _ _ _ _ x y => ahead_any x y _) hH h.1 (by rw [clms_size]; omega)
  change Calls Try.prog 67 _ _ _ at hcon
  rw [clms_size] at hcon
  refine hcon.mono ?_
  rintro e w' ⟨rfl, d', n, os, hp, hs, rfl⟩
  obtain ⟨hsz, hord⟩ := order_of r h64 d' hp hs
  have hH' := holdsK_sortWorldK encC 2 W g 0 n (clms r) d' os h.1 hH (by rw [clms_size, hsz])
  refine ⟨rfl, ⟨_, hord, by simp [hsz], fun i k hk => ?_⟩, fun B w0 hB hb => below_sort hb _ _ _ _ _ _ _ hB h.1, fun g' xs hne hr => hr.sort _ _ _ _ _ _ _ hne h.1, lt_sortWorldK _ _ _ _ _ _ _ _ h.1⟩
  rw [List.getElem?_map] at hk
  obtain ⟨c, hc1, hc2⟩ := Option.map_eq_some_iff.1 hk
  have hi : i < d'.size := by
    have := (List.getElem?_eq_some_iff.1 hc1).1
    simpa using this
  have h0 := (hH'.cell (i := i) (c := 0) hi (by omega)).1
  have h1 := (hH'.cell (i := i) (c := 1) hi (by omega)).1
  have he : d'[i]! = c := by
    rw [getElem!_pos d' i hi]
    have := (List.getElem?_eq_some_iff.1 hc1).2
    simpa using this
  rw [he] at h0 h1
  subst hc2
  simp only [Nat.zero_add, Nat.add_zero] at h0 h1
  exact ⟨h0, _, h1⟩
end Go.Proofs.Ytckgifhidomhaaa
