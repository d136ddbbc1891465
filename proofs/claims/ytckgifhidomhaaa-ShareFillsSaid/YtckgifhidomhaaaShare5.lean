/-
  The walks of layer 3, fifth part: the document's why and Split.
-/
import Derived.Test.YtckgifhidomhaaaShare4
import Derived.Test.YtckgifhidomhaaaFix6
import Derived.Test.YtckgifhidomhaaaRInt
namespace Go.Proofs.Ytckgifhidomhaaa
open Go.ChangeShapes Go.WideShapes Go.ChangeAt Go.RowKit
set_option linter.unusedVariables false
set_option linter.unusedSimpArgs false

def whyE (t : Int) (l : List Int) : Int := if mnL t l < 0 then 2 else if In64 l.sum then 0 else 7
theorem sum_len {w : World} {s : Bool} {A : Option Addr} {n c : Nat} {l : List Int} (h : BigAt w s A n c l.sum) (hl : l.length ≤ 1000) (hx : All64 l) : n ≤ 128 := by
  have := sum_bound l hx
  refine h.len.2 ?_
  rw [show (2 : Nat) ^ 128 = 340282366920938463463374607431768211456 from by decide]
  omega
theorem own_apart {w : World} {B1 B2 : Nat} {e1 e2 : TypeId} {z1 z2 n1 n2 : Nat} {v1 v2 : Value} {xs1 xs2 : List Value} (h1 : w.ownsRow B1 e1 z1 v1 n1 xs1) (h2 : w.ownsRow B2 e2 z2 v2 n2 xs2) (hne : e1 ≠ e2) :
    v1.ownBlock = none ∨ v1.ownBlock ≠ v2.ownBlock := by
  rcases h1.2 with ⟨rfl, _⟩ | ⟨g1, c1, u1, rfl, _, a1, _⟩
  · exact Or.inl rfl
  · rcases h2.2 with ⟨rfl, _⟩ | ⟨g2, c2, u2, rfl, _, a2, _⟩
    · exact Or.inr (by simp [Value.ownBlock])
    · refine Or.inr fun e => ?_
      simp [Value.ownBlock] at e
      subst e
      rw [a1] at a2
      injection a2 with a2
      injection a2 with _ a2
      exact hne a2

set_option maxHeartbeats 2000000 in
theorem why_any (t : Int) (A : Option Addr) (cap : Nat) (l : List Int) (w : World) (hl : l.length ≤ 1000) (hx : All64 l) (hs : Sl w A (ints .i64 l)) :
    Calls Try.prog 42 #[.int .i64 t, .slice A l.length cap] w fun e w' => e = .returned (.int .i64 (whyE t l)) ∧ Below w.heap.size w w' := by
  by_cases ht : t < 0
  · have e : whyE t l = 2 := if_pos (by have := (mnL_le l t).1; omega)
    rw [e]
    clear e
    go_enter Try.func42, Try.ntmps42
    go_wp2
    go_ret
    exact ⟨rfl, Below.refl _ _⟩
  · have HW : ∀ k, (h : k < l.length) → l[k] < 0 → whyE t l = 2 := fun k h hk => if_pos (by have := (mnL_le l t).2.1 _ (List.getElem_mem h); omega)
    have HW := Lib.hid HW
    have HR := Lib.hid (fun W (hb : Below w.heap.size w W) => rsum_any A cap l W hl hx (hs.below hb))
    go_enter Try.func42, Try.ntmps42
    go_wp2
    go_loopw [5] (fun i wr => ∃ k : Nat, k ≤ l.length ∧ i = .int .i64 k ∧ (∀ j, (h : j < l.length) → j < k → 0 ≤ l[j]) ∧ Below w.heap.size w wr) (fun i _ => l.length - (intOf i).toNat)
    case atStart => exact ⟨0, by omega, rfl, fun j _ h => absurd h (by omega), Below.refl _ _⟩
    case round =>
      obtain ⟨k, hk, rfl, hp, hB⟩ := hrel
      by_cases hlt : k < l.length
      · obtain ⟨b, o, rfl, hz⟩ := (hs.below hB).int hlt
        have hbr := World.block_lt_of_cell? _ _ hz
        by_cases hneg : l[k] < 0
        · have E := Lib.hid (HW.out k hlt hneg)
          generalize l[k] = x at *
          go_wp2
          go_ret
          exact ⟨by rw [E.out]; rfl, hB⟩
        · have HP : ∀ j, (h : j < l.length) → j < k + 1 → 0 ≤ l[j] := fun j h hj => by
            rcases Nat.lt_or_ge j k with h' | h'
            · exact hp j h h'
            · obtain rfl : j = k := by omega
              omega
          have HP := Lib.hid HP
          clear hp
          generalize l[k] = x at *
          go_wp2
          go_roundw
          case rel => exact ⟨k + 1, by omega, by go_num, HP.out, hB⟩
          case measure => simp [intOf]; omega
      · obtain rfl : k = l.length := by omega
        have hnn : ¬ mnL t l < 0 := mnL_nn.2 ⟨by omega, fun x hx => by
          obtain ⟨j, hj, rfl⟩ := List.getElem_of_mem hx
          exact hp j hj hj⟩
        have HN0 := Lib.hid (fun h : In64 l.sum => show whyE t l = 0 from (if_neg hnn).trans (if_pos h))
        have HN7 := Lib.hid (fun h : ¬ In64 l.sum => show whyE t l = 7 from (if_neg hnn).trans (if_neg h))
        clear hp hnn
        go_wp2_with fail
        refine (HR.out _ hB).mono ?_
        rintro e w1 ⟨⟨s1, A1, n1, c1, rfl, hf1, X1⟩, hb1⟩
        have hB1 := since_step hB hb1
        have hn1 := sum_len X1 hl hx
        clear hb1 hf1
        go_wp2_with fail
        refine (bfits_any l.sum s1 A1 n1 c1 _ (by omega) X1).mono ?_
        rintro e w2 ⟨rfl, hb2⟩
        have hB2 := since_step hB1 hb2
        by_cases hin : In64 l.sum
        · have E := Lib.hid (HN0.out hin)
          rw [show decide (inN l.sum 63) = true from decide_eq_true ((in64_iff _).2 hin)]
          clear hin hb2 X1
          go_wp2_with fail
          go_ret
          exact ⟨by rw [E.out]; rfl, hB2⟩
        · have E := Lib.hid (HN7.out hin)
          rw [show decide (inN l.sum 63) = false from decide_eq_false fun g => hin ((in64_iff _).1 g)]
          clear hin hb2 X1
          go_wp2_with fail
          go_ret
          exact ⟨by rw [E.out]; rfl, hB2⟩

theorem ref_split_E {t : Int} {l : List Int} : splitE t l = if whyE t l ≠ 0 then whyE t l else if l.sum = 0 ∧ 0 < t then 8 else 0 := by
  unfold splitE whyE
  by_cases h : mnL t l < 0
  · simp [h]
  · by_cases h2 : In64 l.sum
    · simp [h, h2]
    · simp [h, h2]

theorem EUL : Elem Try.prog 75 47 1 8 := Elem.mk' (z := .int .u64 0) (by kernel_rfl) (by kernel_rfl) (by decide) (by decide)
end Go.Proofs.Ytckgifhidomhaaa
