import Derived.BigQuiet
import Derived.Deep.CutBlock
import Derived.Deep.CutRange
import Derived.Deep.DeepCutAuto
import Derived.Deep.RegionHeld3
import Derived.Deep.RegionLaw
import Derived.IntWalk
import Derived.Laws.Bits64
import Derived.Laws.BitsAllLaws
import Derived.Test.YtiggcpfmmgmncaaSp02
section
namespace Go.Proofs.Ytiggcpfmmgmncaa
open Go.ChangeShapes Go.WideShapes Go.ChangeAt Go.RowKit
set_option linter.unusedVariables false
set_option linter.unusedSimpArgs false

theorem EF8 : Elem Try.prog 36 5 1 1 := Elem.mk' (z := .int .u8 0) (by kernel_rfl) (by kernel_rfl) (by decide) (by decide)
def Fr.val (f : Fr) (A : Option Addr) (c : Nat) : Value := .agg #[.int .i64 f.life, .int .i64 f.era, .int .i64 f.seq, .int .i64 f.part, .int .i64 f.parts, .slice A f.data.length c]
set_option maxHeartbeats 4000000 in
set_option maxRecDepth 100000 in
theorem fit7_any (f : Fr) (A : Option Addr) (c : Nat) (w : World) :
    Calls Try.prog 93 #[f.val A c] w fun e w' => e = .returned (.bool f.ok) ∧ Below w.heap.size w w' := by
  obtain ⟨life, era, seq, part, parts, data⟩ := f
  unfold Fr.val
  simp only
  obtain ⟨n, hn⟩ : ∃ n, data.length = n := ⟨_, rfl⟩
  rw [hn]
  by_cases h0 : 1 ≤ life
  · by_cases h1 : life ≤ 16777215
    · by_cases h2 : 0 ≤ era
      · by_cases h3 : era ≤ 16777215
        · by_cases h4 : 1 ≤ seq
          · by_cases h5 : seq ≤ 4294967295
            · by_cases h6 : 1 ≤ parts
              · by_cases h7 : parts ≤ 255
                · by_cases h8 : 0 ≤ part
                  · by_cases h9 : part < parts
                    · by_cases h10 : (n : Int) ≤ 80
                      · have hE : Fr.ok ⟨life, era, seq, part, parts, data⟩ = true := (Fr.ok_iff _).2 ⟨by assumption, by assumption, by assumption, by assumption, by assumption, by assumption, by assumption, by assumption, by assumption, by assumption, by simp only; omega⟩
                        rw [hE]
                        clear hE hn
                        go_enter Try.func93, Try.ntmps93
                        go_wp2_with fail
                        go_ret
                        exact ⟨rfl, since_alloc (Below.refl _ _) _⟩
                      · have hE : Fr.ok ⟨life, era, seq, part, parts, data⟩ = false := by
                          refine Bool.eq_false_iff.2 fun h => ?_
                          have h := (Fr.ok_iff _).1 h
                          simp only at h
                          omega
                        rw [hE]
                        clear hE hn
                        go_enter Try.func93, Try.ntmps93
                        go_wp2_with fail
                        go_ret
                        exact ⟨rfl, since_alloc (Below.refl _ _) _⟩
                    · have hE : Fr.ok ⟨life, era, seq, part, parts, data⟩ = false := by
                        refine Bool.eq_false_iff.2 fun h => ?_
                        have h := (Fr.ok_iff _).1 h
                        simp only at h
                        omega
                      rw [hE]
                      clear hE hn
                      go_enter Try.func93, Try.ntmps93
                      go_wp2_with fail
                      go_ret
                      exact ⟨rfl, since_alloc (Below.refl _ _) _⟩
                  · have hE : Fr.ok ⟨life, era, seq, part, parts, data⟩ = false := by
                      refine Bool.eq_false_iff.2 fun h => ?_
                      have h := (Fr.ok_iff _).1 h
                      simp only at h
                      omega
                    rw [hE]
                    clear hE hn
                    go_enter Try.func93, Try.ntmps93
                    go_wp2_with fail
                    go_ret
                    exact ⟨rfl, since_alloc (Below.refl _ _) _⟩
                · have hE : Fr.ok ⟨life, era, seq, part, parts, data⟩ = false := by
                    refine Bool.eq_false_iff.2 fun h => ?_
                    have h := (Fr.ok_iff _).1 h
                    simp only at h
                    omega
                  rw [hE]
                  clear hE hn
                  go_enter Try.func93, Try.ntmps93
                  go_wp2_with fail
                  go_ret
                  exact ⟨rfl, since_alloc (Below.refl _ _) _⟩
              · have hE : Fr.ok ⟨life, era, seq, part, parts, data⟩ = false := by
                  refine Bool.eq_false_iff.2 fun h => ?_
                  have h := (Fr.ok_iff _).1 h
                  simp only at h
                  omega
                rw [hE]
                clear hE hn
                go_enter Try.func93, Try.ntmps93
                go_wp2_with fail
                go_ret
                exact ⟨rfl, since_alloc (Below.refl _ _) _⟩
            · have hE : Fr.ok ⟨life, era, seq, part, parts, data⟩ = false := by
                refine Bool.eq_false_iff.2 fun h => ?_
                have h := (Fr.ok_iff _).1 h
                simp only at h
                omega
              rw [hE]
              clear hE hn
              go_enter Try.func93, Try.ntmps93
              go_wp2_with fail
              go_ret
              exact ⟨rfl, since_alloc (Below.refl _ _) _⟩
          · have hE : Fr.ok ⟨life, era, seq, part, parts, data⟩ = false := by
              refine Bool.eq_false_iff.2 fun h => ?_
              have h := (Fr.ok_iff _).1 h
              simp only at h
              omega
            rw [hE]
            clear hE hn
            go_enter Try.func93, Try.ntmps93
            go_wp2_with fail
            go_ret
            exact ⟨rfl, since_alloc (Below.refl _ _) _⟩
        · have hE : Fr.ok ⟨life, era, seq, part, parts, data⟩ = false := by
            refine Bool.eq_false_iff.2 fun h => ?_
            have h := (Fr.ok_iff _).1 h
            simp only at h
            omega
          rw [hE]
          clear hE hn
          go_enter Try.func93, Try.ntmps93
          go_wp2_with fail
          go_ret
          exact ⟨rfl, since_alloc (Below.refl _ _) _⟩
      · have hE : Fr.ok ⟨life, era, seq, part, parts, data⟩ = false := by
          refine Bool.eq_false_iff.2 fun h => ?_
          have h := (Fr.ok_iff _).1 h
          simp only at h
          omega
        rw [hE]
        clear hE hn
        go_enter Try.func93, Try.ntmps93
        go_wp2_with fail
        go_ret
        exact ⟨rfl, since_alloc (Below.refl _ _) _⟩
    · have hE : Fr.ok ⟨life, era, seq, part, parts, data⟩ = false := by
        refine Bool.eq_false_iff.2 fun h => ?_
        have h := (Fr.ok_iff _).1 h
        simp only at h
        omega
      rw [hE]
      clear hE hn
      go_enter Try.func93, Try.ntmps93
      go_wp2_with fail
      go_ret
      exact ⟨rfl, since_alloc (Below.refl _ _) _⟩
  · have hE : Fr.ok ⟨life, era, seq, part, parts, data⟩ = false := by
      refine Bool.eq_false_iff.2 fun h => ?_
      have h := (Fr.ok_iff _).1 h
      simp only at h
      omega
    rw [hE]
    clear hE hn
    go_enter Try.func93, Try.ntmps93
    go_wp2_with fail
    go_ret
    exact ⟨rfl, since_alloc (Below.refl _ _) _⟩
set_option maxHeartbeats 4000000 in
set_option maxRecDepth 100000 in
theorem ris7_any (f : Fr) (A : Option Addr) (c : Nat) (w : World) :
    Calls Try.prog 86 #[f.val A c] w fun e w' => e = .returned (.bool f.ok) ∧ Below w.heap.size w w' := by
  obtain ⟨life, era, seq, part, parts, data⟩ := f
  unfold Fr.val
  simp only
  obtain ⟨n, hn⟩ : ∃ n, data.length = n := ⟨_, rfl⟩
  rw [hn]
  by_cases h0 : 1 ≤ life
  · by_cases h1 : life ≤ 16777215
    · by_cases h2 : 0 ≤ era
      · by_cases h3 : era ≤ 16777215
        · by_cases h4 : 1 ≤ seq
          · by_cases h5 : seq ≤ 4294967295
            · by_cases h6 : 1 ≤ parts
              · by_cases h7 : parts ≤ 255
                · by_cases h8 : 0 ≤ part
                  · by_cases h9 : part < parts
                    · by_cases h10 : (n : Int) ≤ 80
                      · have hE : Fr.ok ⟨life, era, seq, part, parts, data⟩ = true := (Fr.ok_iff _).2 ⟨by assumption, by assumption, by assumption, by assumption, by assumption, by assumption, by assumption, by assumption, by assumption, by assumption, by simp only; omega⟩
                        have g0 : ¬ life < 1 := by omega
                        have g1 : ¬ 16777215 < life := by omega
                        have g2 : ¬ era < 0 := by omega
                        have g3 : ¬ 16777215 < era := by omega
                        have g4 : ¬ seq < 1 := by omega
                        have g5 : ¬ 4294967295 < seq := by omega
                        have p0 : 0 < parts := by omega
                        have p1 : parts < 256 := by omega
                        have p2 : 0 ≤ part := by omega
                        have p3 : part < parts := by omega
                        have p4 : (n : Int) < 81 := by omega
                        clear h0 h1 h2 h3 h4 h5 h6 h7 h8 h9 h10
                        rw [hE]
                        clear hE hn
                        go_enter Try.func86, Try.ntmps86
                        go_wp2_with fail
                        go_ret
                        exact ⟨rfl, since_alloc (Below.refl _ _) _⟩
                      · have hE : Fr.ok ⟨life, era, seq, part, parts, data⟩ = false := by
                          refine Bool.eq_false_iff.2 fun h => ?_
                          have h := (Fr.ok_iff _).1 h
                          simp only at h
                          omega
                        have g0 : ¬ life < 1 := by omega
                        have g1 : ¬ 16777215 < life := by omega
                        have g2 : ¬ era < 0 := by omega
                        have g3 : ¬ 16777215 < era := by omega
                        have g4 : ¬ seq < 1 := by omega
                        have g5 : ¬ 4294967295 < seq := by omega
                        have p0 : 0 < parts := by omega
                        have p1 : parts < 256 := by omega
                        have p2 : 0 ≤ part := by omega
                        have p3 : part < parts := by omega
                        have p4 : ¬ (n : Int) < 81 := by omega
                        clear h0 h1 h2 h3 h4 h5 h6 h7 h8 h9 h10
                        rw [hE]
                        clear hE hn
                        go_enter Try.func86, Try.ntmps86
                        go_wp2_with fail
                        go_ret
                        exact ⟨rfl, since_alloc (Below.refl _ _) _⟩
                    · have hE : Fr.ok ⟨life, era, seq, part, parts, data⟩ = false := by
                        refine Bool.eq_false_iff.2 fun h => ?_
                        have h := (Fr.ok_iff _).1 h
                        simp only at h
                        omega
                      have g0 : ¬ life < 1 := by omega
                      have g1 : ¬ 16777215 < life := by omega
                      have g2 : ¬ era < 0 := by omega
                      have g3 : ¬ 16777215 < era := by omega
                      have g4 : ¬ seq < 1 := by omega
                      have g5 : ¬ 4294967295 < seq := by omega
                      have p0 : 0 < parts := by omega
                      have p1 : parts < 256 := by omega
                      have p2 : 0 ≤ part := by omega
                      have p3 : ¬ part < parts := by omega
                      clear h0 h1 h2 h3 h4 h5 h6 h7 h8 h9
                      rw [hE]
                      clear hE hn
                      go_enter Try.func86, Try.ntmps86
                      go_wp2_with fail
                      go_ret
                      exact ⟨rfl, since_alloc (Below.refl _ _) _⟩
                  · have hE : Fr.ok ⟨life, era, seq, part, parts, data⟩ = false := by
                      refine Bool.eq_false_iff.2 fun h => ?_
                      have h := (Fr.ok_iff _).1 h
                      simp only at h
                      omega
                    have g0 : ¬ life < 1 := by omega
                    have g1 : ¬ 16777215 < life := by omega
                    have g2 : ¬ era < 0 := by omega
                    have g3 : ¬ 16777215 < era := by omega
                    have g4 : ¬ seq < 1 := by omega
                    have g5 : ¬ 4294967295 < seq := by omega
                    have p0 : 0 < parts := by omega
                    have p1 : parts < 256 := by omega
                    have p2 : ¬ 0 ≤ part := by omega
                    clear h0 h1 h2 h3 h4 h5 h6 h7 h8
                    rw [hE]
                    clear hE hn
                    go_enter Try.func86, Try.ntmps86
                    go_wp2_with fail
                    go_ret
                    exact ⟨rfl, since_alloc (Below.refl _ _) _⟩
                · have hE : Fr.ok ⟨life, era, seq, part, parts, data⟩ = false := by
                    refine Bool.eq_false_iff.2 fun h => ?_
                    have h := (Fr.ok_iff _).1 h
                    simp only at h
                    omega
                  have g0 : ¬ life < 1 := by omega
                  have g1 : ¬ 16777215 < life := by omega
                  have g2 : ¬ era < 0 := by omega
                  have g3 : ¬ 16777215 < era := by omega
                  have g4 : ¬ seq < 1 := by omega
                  have g5 : ¬ 4294967295 < seq := by omega
                  have p0 : 0 < parts := by omega
                  have p1 : ¬ parts < 256 := by omega
                  clear h0 h1 h2 h3 h4 h5 h6 h7
                  rw [hE]
                  clear hE hn
                  go_enter Try.func86, Try.ntmps86
                  go_wp2_with fail
                  go_ret
                  exact ⟨rfl, since_alloc (Below.refl _ _) _⟩
              · have hE : Fr.ok ⟨life, era, seq, part, parts, data⟩ = false := by
                  refine Bool.eq_false_iff.2 fun h => ?_
                  have h := (Fr.ok_iff _).1 h
                  simp only at h
                  omega
                have g0 : ¬ life < 1 := by omega
                have g1 : ¬ 16777215 < life := by omega
                have g2 : ¬ era < 0 := by omega
                have g3 : ¬ 16777215 < era := by omega
                have g4 : ¬ seq < 1 := by omega
                have g5 : ¬ 4294967295 < seq := by omega
                have p0 : ¬ 0 < parts := by omega
                clear h0 h1 h2 h3 h4 h5 h6
                rw [hE]
                clear hE hn
                go_enter Try.func86, Try.ntmps86
                go_wp2_with fail
                go_ret
                exact ⟨rfl, since_alloc (Below.refl _ _) _⟩
            · have hE : Fr.ok ⟨life, era, seq, part, parts, data⟩ = false := by
                refine Bool.eq_false_iff.2 fun h => ?_
                have h := (Fr.ok_iff _).1 h
                simp only at h
                omega
              have g0 : ¬ life < 1 := by omega
              have g1 : ¬ 16777215 < life := by omega
              have g2 : ¬ era < 0 := by omega
              have g3 : ¬ 16777215 < era := by omega
              have g4 : ¬ seq < 1 := by omega
              have g5 : 4294967295 < seq := by omega
              clear h0 h1 h2 h3 h4 h5
              rw [hE]
              clear hE hn
              go_enter Try.func86, Try.ntmps86
              go_wp2_with fail
              go_ret
              exact ⟨rfl, since_alloc (Below.refl _ _) _⟩
          · have hE : Fr.ok ⟨life, era, seq, part, parts, data⟩ = false := by
              refine Bool.eq_false_iff.2 fun h => ?_
              have h := (Fr.ok_iff _).1 h
              simp only at h
              omega
            have g0 : ¬ life < 1 := by omega
            have g1 : ¬ 16777215 < life := by omega
            have g2 : ¬ era < 0 := by omega
            have g3 : ¬ 16777215 < era := by omega
            have g4 : seq < 1 := by omega
            clear h0 h1 h2 h3 h4
            rw [hE]
            clear hE hn
            go_enter Try.func86, Try.ntmps86
            go_wp2_with fail
            go_ret
            exact ⟨rfl, since_alloc (Below.refl _ _) _⟩
        · have hE : Fr.ok ⟨life, era, seq, part, parts, data⟩ = false := by
            refine Bool.eq_false_iff.2 fun h => ?_
            have h := (Fr.ok_iff _).1 h
            simp only at h
            omega
          have g0 : ¬ life < 1 := by omega
          have g1 : ¬ 16777215 < life := by omega
          have g2 : ¬ era < 0 := by omega
          have g3 : 16777215 < era := by omega
          clear h0 h1 h2 h3
          rw [hE]
          clear hE hn
          go_enter Try.func86, Try.ntmps86
          go_wp2_with fail
          go_ret
          exact ⟨rfl, since_alloc (Below.refl _ _) _⟩
      · have hE : Fr.ok ⟨life, era, seq, part, parts, data⟩ = false := by
          refine Bool.eq_false_iff.2 fun h => ?_
          have h := (Fr.ok_iff _).1 h
          simp only at h
          omega
        have g0 : ¬ life < 1 := by omega
        have g1 : ¬ 16777215 < life := by omega
        have g2 : era < 0 := by omega
        clear h0 h1 h2
        rw [hE]
        clear hE hn
        go_enter Try.func86, Try.ntmps86
        go_wp2_with fail
        go_ret
        exact ⟨rfl, since_alloc (Below.refl _ _) _⟩
    · have hE : Fr.ok ⟨life, era, seq, part, parts, data⟩ = false := by
        refine Bool.eq_false_iff.2 fun h => ?_
        have h := (Fr.ok_iff _).1 h
        simp only at h
        omega
      have g0 : ¬ life < 1 := by omega
      have g1 : 16777215 < life := by omega
      clear h0 h1
      rw [hE]
      clear hE hn
      go_enter Try.func86, Try.ntmps86
      go_wp2_with fail
      go_ret
      exact ⟨rfl, since_alloc (Below.refl _ _) _⟩
  · have hE : Fr.ok ⟨life, era, seq, part, parts, data⟩ = false := by
      refine Bool.eq_false_iff.2 fun h => ?_
      have h := (Fr.ok_iff _).1 h
      simp only at h
      omega
    have g0 : life < 1 := by omega
    clear h0
    rw [hE]
    clear hE hn
    go_enter Try.func86, Try.ntmps86
    go_wp2_with fail
    go_ret
    exact ⟨rfl, since_alloc (Below.refl _ _) _⟩
end Go.Proofs.Ytiggcpfmmgmncaa
end
