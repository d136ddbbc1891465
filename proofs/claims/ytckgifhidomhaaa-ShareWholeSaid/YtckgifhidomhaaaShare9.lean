/-
  Layer 3: ShareFair: the walk.
-/
import Derived.Test.YtckgifhidomhaaaShare7
namespace Go.Proofs.Ytckgifhidomhaaa
open Go.ChangeShapes Go.WideShapes Go.ChangeAt Go.RowKit
set_option linter.unusedVariables false
set_option linter.unusedSimpArgs false

theorem All64.of {l : List Int} (h : ∀ x ∈ l, (Lit.int .i64 x).wf = true) : All64 l := fun x hx => bd_i64 (h x hx)
theorem All64.take {l : List Int} (h : All64 l) (n : Nat) : All64 (l.take n) := fun x hx => h x (List.mem_of_mem_take hx)
theorem sl_take {w : World} {A : Option Addr} {l : List Int} (h : Sl w A (ints .i64 l)) (n : Nat) : Sl w A (ints .i64 (l.take n)) := by
  have e : ints .i64 (l.take n) = (ints .i64 l).take n := by simp [ints, List.map_take]
  rw [e]; exact h.take n

/-- without its sum nothing is parted; of nothing nothing -/
theorem fair_any {t : Int} {l : List Int} (h0 : splitE t l = 0) {i k : Nat} (hi : i < (partsV t l).length) (hk : k < (partsV t l).length) (h : l.getD k 0 < l.getD i 0 ∨ l.getD i 0 = l.getD k 0 ∧ i < k) : (partsV t l)[k] ≤ (partsV t l)[i] := by
  unfold splitE at h0
  split at h0
  · cases h0
  · rename_i hb
    obtain ⟨ht, hnn⟩ := mnL_nn.1 hb
    split at h0
    · split at h0
      · cases h0
      · rename_i hz
        have hs := (mem_le_sum l hnn).1
        by_cases hS : l.sum = 0
        · obtain rfl : t = 0 := by omega
          have e := partsV_zero hS
          simp only [e, List.getElem_map]
          exact Int.le_refl _
        · exact partsV_fair ht hnn (by omega) hi hk h
    · cases h0

set_option maxRecDepth 100000 in
set_option maxHeartbeats 8000000 in
theorem walk_ShareFair (a0 : Int) (a1 : Option Addr) (n1 c1 : Nat) (w : World) (w0 : (Lit.int .i64 a0).wf = true) (w1 : Rd w (.sl (.int .i64)) [.slice a1 n1 c1]) :
    Calls Try.prog 6 #[.int .i64 a0, .slice a1 n1 c1] w fun e w' => e = .returned (.bool true) ∧ Below w.heap.size w w' := by
  have h64 : In64 a0 := bd_i64 w0
  obtain ⟨l0, rfl, hc1, hc2, hs0, hwf⟩ := rd_ints w1
  have hx0 := All64.of hwf
  obtain ⟨l, hl⟩ : ∃ l, l = l0.take 30 := ⟨_, rfl⟩
  have HF := Lib.hid (few3_any a1 c1 l0 w ⟨hc1, hc2⟩ hs0)
  have hx : All64 l := by rw [hl]; exact hx0.take _
  have hs : Sl w a1 (ints .i64 l) := by rw [hl]; exact sl_take hs0 _
  have hll : l.length ≤ 64 := by rw [hl]; simp; omega
  have HSP := Lib.hid (fun W (hb : Below w.heap.size w W) => split_any a0 a1 c1 l W hll hx h64 (hs.below hb))
  rw [← hl] at HF
  clear w0 w1 hwf hx0 hs0 hc1 hl
  go_enter Try.func6, Try.ntmps6
  go_wp2_with fail
  refine HF.out.mono ?_
  rintro e w1 ⟨rfl, hb1⟩
  go_wp2_with fail
  refine (HSP.out _ hb1).mono ?_
  rintro e w2 ⟨⟨A2, c2, rfl, hc, ha, hf⟩, hb2⟩
  have hB2 := since_step hb1 hb2
  have hs2 := hs.below hB2
  clear hb1 hb2 hs hf
  by_cases h0 : splitE a0 l = 0
  · have hv : splitV a0 l = partsV a0 l := if_pos h0
    have HFA := Lib.hid (fun i k hi hk h => fair_any (i := i) (k := k) h0 hi hk h)
    have hpl := partsV_length a0 l
    rw [h0]
    rw [hv] at ha hc ⊢
    rw [hpl] at hc ⊢
    generalize partsV a0 l = v at *
    have HPL := Lib.hid hpl
    clear h0 hv
    go_wp2_with fail
    go_loopw [7] (fun i wr => ∃ k : Nat, k ≤ l.length ∧ i = .int .i64 k ∧ Below w2.heap.size w2 wr) (fun i _ => l.length - (intOf i).toNat)
    case atStart => exact ⟨0, by omega, rfl, Below.refl _ _⟩
    case round =>
      obtain ⟨i, hi, rfl, hB⟩ := hrel
      by_cases hlt : i < l.length
      · go_wp2_with fail
        generalize wr = wz at *
        go_loopw [8] (fun s wr => ∃ k : Nat, k ≤ l.length ∧ s = .int .i64 k ∧ Below w2.heap.size w2 wr) (fun s _ => l.length - (intOf s).toNat)
        case atStart => exact ⟨0, by omega, rfl, hB⟩
        case round =>
          clear hB
          obtain ⟨k, hk, rfl, hB⟩ := hrel
          by_cases hlt2 : k < l.length
          · obtain ⟨b, o, hA, hz1⟩ := (hs2.below hB).int hlt
            obtain ⟨b', o', hA', hz2⟩ := (hs2.below hB).int hlt2
            rw [hA] at hA'
            injection hA' with hA'; injection hA' with e1 e2
            subst e1; subst e2
            obtain ⟨d, p, hD, hz3⟩ := (ha.below hB).int (j := i) (by omega)
            obtain ⟨d', p', hD', hz4⟩ := (ha.below hB).int (j := k) (by omega)
            rw [hD] at hD'
            injection hD' with hD'; injection hD' with e1 e2
            subst e1; subst e2
            have hfa := HFA.out i k (by omega) (by omega)
            rw [List.getD_eq_getElem?_getD, List.getD_eq_getElem?_getD, List.getElem?_eq_getElem hlt, List.getElem?_eq_getElem hlt2] at hfa
            simp only [Option.getD_some] at hfa
            have l1 := World.block_lt_of_cell? _ _ hz1
            have l2 := World.block_lt_of_cell? _ _ hz3
            subst hA; subst hD
            generalize v[i]'(by omega) = vi at *
            generalize v[k]'(by omega) = vk at *
            generalize l[i] = x at *
            generalize l[k] = y at *
            by_cases h1 : y < x
            · have h2 : vk ≤ vi := hfa (Or.inl h1)
              have h3 : ¬ x = y := by omega
              have h4 : ¬ vi < vk := by omega
              clear hfa
              have e1 : decide (y < x) = true := decide_eq_true h1
              have e2 : decide (vi < vk) = false := decide_eq_false h4
              have e3 : (x == y) = false := by rw [beq_eq_false_iff_ne]; exact h3
              go_wp2
              go_quiet (fail)
              go_wp2
              go_roundw
              case rel => exact ⟨k + 1, by omega, by go_num, below_drewN hB _⟩
              case measure => simp [intOf]; omega
            · by_cases h2 : x = y
              · subst h2
                by_cases h3 : i < k
                · have h4 : ¬ vi < vk := by have := hfa (Or.inr ⟨rfl, h3⟩); omega
                  clear hfa
                  have e1 : decide (x < x) = false := decide_eq_false h1
                  have e2 : decide (vi < vk) = false := decide_eq_false h4
                  have e3 : (x == x) = true := by simp
                  have e4 : decide ((i : Int) < (k : Int)) = true := decide_eq_true (by omega)
                  go_wp2
                  go_quiet (fail)
                  go_wp2
                  go_roundw
                  case rel => exact ⟨k + 1, by omega, by go_num, below_drewN hB _⟩
                  case measure => simp [intOf]; omega
                · clear hfa
                  have e1 : decide (x < x) = false := decide_eq_false h1
                  have e3 : (x == x) = true := by simp
                  have e4 : decide ((i : Int) < (k : Int)) = false := decide_eq_false (by omega)
                  go_wp2
                  go_quiet (fail)
                  go_wp2
                  go_roundw
                  case rel => exact ⟨k + 1, by omega, by go_num, below_drewN hB _⟩
                  case measure => simp [intOf]; omega
              · clear hfa
                have e1 : decide (y < x) = false := decide_eq_false h1
                have e3 : (x == y) = false := by rw [beq_eq_false_iff_ne]; exact h2
                go_wp2
                go_quiet (fail)
                go_wp2
                go_roundw
                case rel => exact ⟨k + 1, by omega, by go_num, below_drewN hB _⟩
                case measure => simp [intOf]; omega
          · obtain rfl : k = l.length := by omega
            go_wp2
            go_roundw
            case rel => exact ⟨i + 1, by omega, by go_num, hB⟩
            case measure => simp [intOf]; omega
      · obtain rfl : i = l.length := by omega
        go_wp2_with fail
        refine (lives3_any _).mono ?_
        rintro e w3 ⟨rfl, hb3⟩
        have hB3 := since_step hB hb3
        go_wp2_with fail
        go_ret
        exact ⟨rfl, hB2.trans (hB3.mono hB2.size)⟩
  · have hv : splitV a0 l = [] := if_neg h0
    rw [hv]
    generalize splitE a0 l = E at *
    clear hv
    go_wp2_with fail
    refine (lives3_any _).mono ?_
    rintro e w3 ⟨rfl, hb3⟩
    have hB3 := since_step hB2 hb3
    go_wp2_with fail
    go_ret
    exact ⟨rfl, hB3⟩
end Go.Proofs.Ytckgifhidomhaaa
