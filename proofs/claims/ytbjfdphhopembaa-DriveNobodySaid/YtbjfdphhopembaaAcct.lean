/-
  Layer 15, first part: clients: isClient, before; slices.Index, Contains at ints.
-/
import Derived.Test.YtbjfdphhopembaaNtV
import Derived.Test.YtbjfdphhopembaaRowM
namespace Go.Proofs.Ytbjfdphhopembaa
open Go.ChangeShapes Go.WideShapes Go.ChangeAt Go.RowKit
set_option linter.unusedVariables false
set_option linter.unusedSimpArgs false

def isCl (c : Int) : Bool := decide (1 ≤ c) && decide (c ≤ 16)

def ahN (x y : Nt) : Bool := decide (x.n < y.n)

set_option maxRecDepth 100000 in
set_option maxHeartbeats 1000000 in
theorem idx_int (A : Option Addr) (cap : Nat) (l : List Nt) (c : Int) (w : World) (hl : l.length ≤ 1000000) (hs : Sl w A (rc Nt.cells l)) :
    Calls Try.prog 88 #[.slice A l.length cap, .int .i64 c] w fun e w' => e = .returned (.int .i64 (atL (fun x => c == x.n) l)) ∧ Below w.heap.size w w' := by
  go_enter Try.func88, Try.ntmps88
  go_wp2
  go_loopw [8] (fun i wr => ∃ k : Nat, k ≤ l.length ∧ i = .int .i64 k ∧ (∀ j, (hj : j < l.length) → j < k → (c == l[j].n) = false) ∧ Below w.heap.size w wr) (fun i _ => l.length - (intOf i).toNat)
  case atStart => exact ⟨0, by omega, rfl, fun j hj h => absurd h (by omega), Below.refl _ _⟩
  case round =>
    obtain ⟨k, hk, rfl, hno, hB⟩ := hrel
    by_cases hlt2 : k < l.length
    · obtain ⟨b, o, rfl, hbw, hg⟩ := hs.nt hlt2
      have hg1 : l[k].at wr b (o + k) := Nt.at_keep (w := w) hg fun i => hB.cell (p := ⟨b, i, none⟩) hbw
      obtain ⟨g0, gT⟩ := hg1
      have HNO := Lib.hid hno
      clear hno
      cases hq : (c == l[k].n) with
      | true =>
        have HQ := Lib.hid hq
        go_wp2
        go_ret
        exact ⟨retI (atL_some hlt2 (fun j hj => HNO.out j (by omega) hj) HQ.out).symm, hB⟩
      | false =>
        have HQ := Lib.hid hq
        go_wp2
        go_roundw
        case rel =>
          refine ⟨k + 1, by omega, by go_num, fun j hj hjk => ?_, hB⟩
          rcases Nat.lt_or_ge j k with h | h
          · exact HNO.out j hj h
          · obtain rfl : j = k := by omega
            exact HQ.out
        case measure => simp [intOf]; omega
    · have HE := Lib.hid (atL_none (p := fun x : Nt => c == x.n) fun j hj => hno j hj (by omega))
      clear hno
      go_wp2
      go_ret
      exact ⟨retI HE.out.symm, hB⟩
def inL (c : Int) (l : List Nt) : Bool := l.any fun x => c == x.n
theorem inL_at (c : Int) (l : List Nt) : inL c l = decide (0 ≤ atL (fun x => c == x.n) l) := by
  rcases atL_cases (fun x : Nt => c == x.n) l with ⟨h0, hno⟩ | ⟨k, hk, h0, hpk, _⟩
  · rw [h0]
    have : inL c l = false := by
      unfold inL
      rw [List.any_eq_false]
      intro x hx
      obtain ⟨j, hj, rfl⟩ := List.getElem_of_mem hx
      rw [hno j hj]; decide
    rw [this]; rfl
  · rw [h0]
    have : inL c l = true := by
      unfold inL
      rw [List.any_eq_true]
      exact ⟨l[k], List.getElem_mem hk, hpk⟩
    rw [this]
    simp
set_option maxRecDepth 100000 in
set_option maxHeartbeats 1000000 in
theorem has_int (A : Option Addr) (cap : Nat) (l : List Nt) (c : Int) (w : World) (hl : l.length ≤ 1000000) (hs : Sl w A (rc Nt.cells l)) :
    Calls Try.prog 44 #[.slice A l.length cap, .int .i64 c] w fun e w' => e = .returned (.bool (inL c l)) ∧ Below w.heap.size w w' := by
  have HI := Lib.hid (inL_at c l)
  go_enter Try.func44, Try.ntmps44
  go_wp2_with fail
  refine (idx_int A cap l c _ hl hs).mono ?_
  rintro e w1 ⟨rfl, hb1⟩
  go_wp2_with fail
  go_ret
  exact ⟨retB HI.out.symm, hb1⟩
end Go.Proofs.Ytbjfdphhopembaa
