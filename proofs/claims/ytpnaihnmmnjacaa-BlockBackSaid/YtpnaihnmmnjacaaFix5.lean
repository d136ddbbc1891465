/-
  The walks of layer 2, fifth part: Product; the document's Sum and Product.
-/
import Derived.Test.YtpnaihnmmnjacaaFix3
import Derived.Test.YtpnaihnmmnjacaaBig5
namespace Go.Proofs.Ytpnaihnmmnjacaa
open Go.ChangeShapes Go.WideShapes Go.ChangeAt Go.RowKit
set_option linter.unusedVariables false
set_option linter.unusedSimpArgs false

/-- a product, all that comes between of 64 bits; else none -/
def prodStep (o : Option Int) (n : Int) : Option Int := match o with | some p => if In64 (p * n) then some (p * n) else none | none => none
def prods (l : List Int) : Option Int := l.foldl prodStep (some 1)
theorem prods_take (l : List Int) (k : Nat) (h : k < l.length) : prods (l.take (k + 1)) = prodStep (prods (l.take k)) l[k] := by
  unfold prods; rw [take_snoc l k h, List.foldl_append]; rfl
theorem prods_none {l : List Int} {k : Nat} (h : prods (l.take k) = none) : prods l = none := by
  have key : ∀ m : List Int, m.foldl prodStep none = none := by
    intro m
    induction m with
    | nil => rfl
    | cons a m ih => simpa [prodStep] using ih
  have : prods l = (l.drop k).foldl prodStep (prods (l.take k)) := by
    unfold prods
    rw [← List.foldl_append, List.take_append_drop]
  rw [this, h, key]
def pV (l : List Int) : Int := (prods l).getD 0
def pE (l : List Int) : Int := if (prods l).isSome = true then 0 else 7
theorem pV_some {l : List Int} {p : Int} (h : prods l = some p) : pV l = p ∧ pE l = 0 := by unfold pV pE; rw [h]; exact ⟨rfl, rfl⟩
theorem pV_none {l : List Int} (h : prods l = none) : pV l = 0 ∧ pE l = 7 := by unfold pV pE; rw [h]; exact ⟨rfl, rfl⟩

set_option maxHeartbeats 2000000 in
theorem fprod_any (A : Option Addr) (cap : Nat) (l : List Int) (w : World) (hl : l.length ≤ 1000000) (hx : All64 l) (hs : Sl w A (ints .i64 l)) :
    Calls Try.prog 128 #[.slice A l.length cap] w fun e w' => e = .returned (.tuple #[.int .i64 (pV l), .int .i64 (pE l)]) ∧ Below w.heap.size w w' := by
  go_enter Try.func128, Try.ntmps128
  go_wp2
  go_loopw [4, 11] (fun v i wr => ∃ (k : Nat) (p : Int), k ≤ l.length ∧ i = .int .i64 k ∧ v = .int .i64 p ∧ In64 p ∧ prods (l.take k) = some p ∧ Below w.heap.size w wr) (fun _ i _ => l.length - (intOf i).toNat)
  case atStart => exact ⟨0, 1, by omega, rfl, rfl, by decide, rfl, Below.refl _ _⟩
  case round =>
    obtain ⟨k, p, hk, rfl, rfl, hp, hpr, hB⟩ := hrel
    by_cases hlt : k < l.length
    · obtain ⟨b, o, rfl, hz⟩ := (hs.below hB).int hlt
      have hbr := World.block_lt_of_cell? _ _ hz
      have hn := hx _ (List.getElem_mem hlt)
      have hst := prods_take l k hlt
      rw [hpr] at hst
      generalize l[k] = n at *
      have h128 := mul_in128 hp hn
      by_cases h64 : In64 (p * n)
      · have hst2 : prods (l.take (k + 1)) = some (p * n) := by rw [hst]; exact if_pos h64
        have HS := Lib.hid hst2
        have HV := Lib.hid (show fV (p * n) = p * n from if_pos h64)
        have HE := Lib.hid (show fE (p * n) = 0 from if_pos h64)
        clear hst hst2 hpr
        go_wp2_with fail
        refine (wmul_any p n hp hn _).mono ?_
        rintro e w1 ⟨rfl, hb1⟩
        have hB1 := since_step hB hb1
        go_wp2_with fail
        refine (int_any (p * n) h128 _).mono ?_
        rintro e w2 ⟨rfl, hb2⟩
        rw [HV.out, HE.out]
        have hB2 := since_step hB1 hb2
        go_wp2_with fail
        go_roundw
        case rel => exact ⟨k + 1, p * n, by omega, by go_num, rfl, h64, HS.out, hB2⟩
        case measure => simp [intOf]; omega
      · have hst2 : prods (l.take (k + 1)) = none := by rw [hst]; exact if_neg h64
        have HS := Lib.hid (pV_none (prods_none hst2))
        have HV := Lib.hid (show fV (p * n) = 0 from if_neg h64)
        have HE := Lib.hid (show fE (p * n) = 7 from if_neg h64)
        clear hst hst2 hpr
        go_wp2_with fail
        refine (wmul_any p n hp hn _).mono ?_
        rintro e w1 ⟨rfl, hb1⟩
        have hB1 := since_step hB hb1
        go_wp2_with fail
        refine (int_any (p * n) h128 _).mono ?_
        rintro e w2 ⟨rfl, hb2⟩
        rw [HV.out, HE.out]
        have hB2 := since_step hB1 hb2
        go_wp2_with fail
        go_ret2
        exact ⟨by rw [HS.out.1, HS.out.2]; rfl, hB2⟩
    · obtain rfl : k = l.length := by omega
      rw [List.take_length] at hpr
      have HS := Lib.hid (pV_some hpr)
      clear hpr
      go_wp2_with fail
      go_ret2
      exact ⟨by rw [HS.out.1, HS.out.2]; rfl, hB⟩
end Go.Proofs.Ytpnaihnmmnjacaa
