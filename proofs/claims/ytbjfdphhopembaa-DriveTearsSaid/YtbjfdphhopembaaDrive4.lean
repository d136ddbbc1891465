/-
  Layer 6, fourth part: fits, Write.
-/
import Derived.Test.YtbjfdphhopembaaDrive3
namespace Go.Proofs.Ytbjfdphhopembaa
open Go.ChangeShapes Go.WideShapes Go.ChangeAt Go.RowKit
set_option linter.unusedVariables false
set_option linter.unusedSimpArgs false

def fitsF (m : Nat) (p : Int) (cs : List (List Nat)) : Bool := cs.all (fun c => c.length == 96) && (decide (0 ≤ p) && decide (p ≤ (m : Int) - (cs.length : Int)))
theorem fitsF_bad {m : Nat} {p : Int} {cs : List (List Nat)} {k : Nat} (hk : k < cs.length) (h : cs[k].length ≠ 96) : fitsF m p cs = false := by
  unfold fitsF
  rw [Bool.and_eq_false_iff]
  left
  rw [List.all_eq_false]
  exact ⟨cs[k], List.getElem_mem hk, by simpa using h⟩
theorem fitsF_good {m : Nat} {p : Int} {cs : List (List Nat)} (h : ∀ k, (hk : k < cs.length) → cs[k].length = 96) : fitsF m p cs = (decide (0 ≤ p) && decide (p ≤ (m : Int) - (cs.length : Int))) := by
  unfold fitsF
  have e : cs.all (fun c => c.length == 96) = true := by
    rw [List.all_eq_true]
    intro x hx
    obtain ⟨k, hk, rfl⟩ := List.getElem_of_mem hx
    simpa using h k hk
  rw [e, Bool.true_and]
theorem fitsF_true {m : Nat} {p : Int} {cs : List (List Nat)} (h : fitsF m p cs = true) : (∀ c ∈ cs, c.length = 96) ∧ 0 ≤ p ∧ p ≤ (m : Int) - (cs.length : Int) := by
  unfold fitsF at h
  simpa [Bool.and_eq_true, List.all_eq_true] using h

set_option maxHeartbeats 2000000 in
set_option maxRecDepth 100000 in
theorem dfits_any {B b g kc : Nat} {K : Option Addr} {d : Dv} (p : Int) (A : Option Addr) (c : Nat) (S : List (RowS Nat)) (w : World) (h : DrA B w b g K kc d) (hl : S.length ≤ 1000000) (hs : Sl w A (rc RowS.cells S)) :
    Calls Try.prog 42 #[.pointer (some ⟨b, 0, none⟩), .int .i64 p, .slice A S.length c] w fun e w' => e = .returned (.bool (fitsF d.S.length p (S.map RowS.l))) ∧ Below w.heap.size w w' := by
  have HS := Lib.hid (fun V (hV : Below w.heap.size w V) => dsize_any V (h.below hV))
  have hm := h.len.2
  generalize d.S.length = m at *
  clear h
  have HBAD := Lib.hid (fun k (hk : k < S.length) (h9 : S[k].l.length ≠ 96) => fitsF_bad (m := m) (p := p) (cs := S.map RowS.l) (k := k) (by simpa using hk) (by simpa using h9))
  have HGD := Lib.hid (fun (h9 : ∀ k, (hk : k < S.length) → S[k].l.length = 96) => fitsF_good (m := m) (p := p) (cs := S.map RowS.l) (fun k hk => by simpa using h9 k (by simpa using hk)))
  rw [List.length_map] at HGD
  generalize fitsF m p (S.map RowS.l) = R at *
  go_enter Try.func42, Try.ntmps42
  go_wp2_with fail
  go_loopw [11] (fun i wr => ∃ k : Nat, k ≤ S.length ∧ i = .int .i64 k ∧ (∀ j, (hj : j < S.length) → j < k → S[j].l.length = 96) ∧ Below w.heap.size w wr) (fun i _ => S.length - (intOf i).toNat)
  case atStart => exact ⟨0, by omega, rfl, fun j hj h => absurd h (by omega), Below.refl _ _⟩
  case round =>
    obtain ⟨k, hk, rfl, hno, hB⟩ := hrel
    have HNO := Lib.hid hno
    clear hno
    by_cases hlt : k < S.length
    · obtain ⟨bb, o, rfl, hbw, hg⟩ := (hs.below hB).rowS hlt
      have hlk : (k : Int) < (S.length : Int) := by omega
      have hgk : (0 : Int) ≤ (k : Int) := by omega
      have hbd := HBAD.out k hlt
      have HL9 := Lib.hid (fun (h9 : S[k].l.length = 96) => (fun j (hj : j < S.length) (hjk : j < k + 1) => by
        rcases Nat.lt_or_ge j k with h | h
        · exact HNO.out j hj h
        · obtain rfl : j = k := by omega
          exact h9 : ∀ j, (hj : j < S.length) → j < k + 1 → S[j].l.length = 96))
      have HBD := Lib.hid hbd
      clear hbd
      generalize S[k].l.length = z at *
      by_cases h9 : z = 96
      · have h9b : ((z : Int) != 96) = false := by rw [h9]; rfl
        have h10 := HL9.out h9
        have H10 := Lib.hid h10
        clear h9 h10 HL9 HBD
        go_wp2_with fail
        go_roundw
        case rel => exact ⟨k + 1, by omega, by go_num, H10.out, hB⟩
        case measure => simp [intOf]; omega
      · have h9b : ((z : Int) != 96) = true := by simpa using (by omega : (z : Int) ≠ 96)
        have H10 := Lib.hid (HBD.out h9)
        clear h9 HL9 HBD
        go_wp2_with fail
        go_ret
        exact ⟨retB H10.out.symm, hB⟩
    · obtain rfl : k = S.length := by omega
      have hgd := HGD.out fun j hj => HNO.out j hj hj
      have HGD2 := Lib.hid hgd
      clear hgd HGD HBAD HNO
      have hw : IntKind.i64.wrap ((m : Int) - (S.length : Int)) = (m : Int) - (S.length : Int) := by rw [IntKind.wrap_i64]; omega
      by_cases h1 : 0 ≤ p
      · go_wp2_with fail
        refine (HS.out _ hB).mono ?_
        rintro e w1 ⟨rfl, hb⟩
        have hB1 := since_step hB hb
        go_wp2_with fail
        go_ret
        exact ⟨retB (by rw [HGD2.out, decide_eq_true h1]; rfl), hB1⟩
      · go_wp2_with fail
        go_ret
        exact ⟨retB (by rw [HGD2.out, decide_eq_false (show ¬ 0 ≤ p by omega)]; rfl), hB⟩
end Go.Proofs.Ytbjfdphhopembaa
