import Derived.Test.YtmjndpkfhdoljaaGreatCc02
set_option maxHeartbeats 16000000
set_option maxRecDepth 100000
set_option linter.unusedVariables false
set_option linter.unusedSimpArgs false
namespace Go.Proofs.YtmjndpkfhdoljaaGreat
open Go.ChangeShapes Go.WideShapes Go.ChangeAt Go.RowKit
section
open Classical in
noncomputable def isE (id mem kind : Int) (L : List Nt) : Bool := if okC id mem kind L then true else false
theorem is_bad {id mem kind : Int} {L : List Nt} (h : ¬ okC id mem kind L) : isE id mem kind L = false := if_neg h
theorem is_ok {id mem kind : Int} {L : List Nt} (h : okC id mem kind L) : isE id mem kind L = true := if_pos h
theorem ris_any_Acct3 (id mem kind : Int) (A : Option Addr) (cap : Nat) (L : List Nt) (w : World) (hl : L.length ≤ 1000000) (hs : Sl w A (rc Nt.cells L)) :
    Calls Tryz.prog 79 #[.agg #[.int .i64 id, .int .i64 mem, .int .i64 kind, .slice A L.length cap]] w fun e w' => e = .returned (.bool (isE id mem kind L)) ∧ Below w.heap.size w w' := by
  have hB := since_alloc (Below.refl _ w) (.cells #[.int .i64 id, .int .i64 mem, .int .i64 kind, .slice A L.length cap] 31)
  have hV : Ac.Bx (w.alloc (.cells #[.int .i64 id, .int .i64 mem, .int .i64 kind, .slice A L.length cap] 31)) w.heap.size ⟨id, mem, kind, A, L.length, cap⟩ := Ac.Bx.new w ⟨id, mem, kind, A, L.length, cap⟩
  have hs0 := hs.alloc (.cells #[.int .i64 id, .int .i64 mem, .int .i64 kind, .slice A L.length cap] 31)
  by_cases b0 : id < 1
  · have HE : Hid (isE id mem kind L = false) := Lib.hid (is_bad (by unfold okC; omega))
    clear hs0 hs hV
    go_enter Tryz.func79, Tryz.ntmps79
    go_wp2
    go_ret
    exact ⟨retB HE.out.symm, hB⟩
  by_cases b1 : 16 < id
  · have HE : Hid (isE id mem kind L = false) := Lib.hid (is_bad (by unfold okC; omega))
    clear hs0 hs hV
    go_enter Tryz.func79, Tryz.ntmps79
    go_wp2
    go_ret
    exact ⟨retB HE.out.symm, hB⟩
  by_cases b2 : mem < 1
  · have HE : Hid (isE id mem kind L = false) := Lib.hid (is_bad (by unfold okC; omega))
    clear hs0 hs hV
    go_enter Tryz.func79, Tryz.ntmps79
    go_wp2
    go_ret
    exact ⟨retB HE.out.symm, hB⟩
  by_cases b3 : 8 < mem
  · have HE : Hid (isE id mem kind L = false) := Lib.hid (is_bad (by unfold okC; omega))
    clear hs0 hs hV
    go_enter Tryz.func79, Tryz.ntmps79
    go_wp2
    go_ret
    exact ⟨retB HE.out.symm, hB⟩
  by_cases b4 : kind < 1
  · have HE : Hid (isE id mem kind L = false) := Lib.hid (is_bad (by unfold okC; omega))
    clear hs0 hs hV
    go_enter Tryz.func79, Tryz.ntmps79
    go_wp2
    go_ret
    exact ⟨retB HE.out.symm, hB⟩
  by_cases b5 : 4 < kind
  · have HE : Hid (isE id mem kind L = false) := Lib.hid (is_bad (by unfold okC; omega))
    clear hs0 hs hV
    go_enter Tryz.func79, Tryz.ntmps79
    go_wp2
    go_ret
    exact ⟨retB HE.out.symm, hB⟩
  by_cases k1 : kind = 1
  · by_cases l1 : 0 < L.length
    · have hl1 : (0 : Int) < (L.length : Int) := by omega
      have HE : Hid (isE id mem kind L = false) := Lib.hid (is_bad (by unfold okC; omega))
      subst k1
      clear hs0 hs hV
      go_enter Tryz.func79, Tryz.ntmps79
      go_wp2
      go_ret
      exact ⟨retB HE.out.symm, hB⟩
    · have hl1 : ¬ (0 : Int) < (L.length : Int) := by omega
      subst k1
      go_enter Tryz.func79, Tryz.ntmps79
      go_wp2_with fail
      go_loopw [3] (fun i wr => ∃ k : Nat, k ≤ L.length ∧ i = .int .i64 k ∧ (∀ j, (hj : j < L.length) → j < k → isCl L[j].n = true) ∧ (∀ j, (hj : j + 1 < L.length) → j + 1 < k → ahN (L[j]'(Nat.lt_of_succ_lt hj)) L[j + 1] = true) ∧ Below (w.alloc (.cells #[.int .i64 id, .int .i64 mem, .int .i64 1, .slice A L.length cap] 31)).heap.size (w.alloc (.cells #[.int .i64 id, .int .i64 mem, .int .i64 1, .slice A L.length cap] 31)) wr) (fun i _ => L.length - (intOf i).toNat)
      case atStart => exact ⟨0, by omega, rfl, fun j hj h => absurd h (by omega), fun j hj h => absurd h (by omega), Below.refl _ _⟩
      case round =>
        obtain ⟨k, hk, rfl, hno, hah, hBr⟩ := hrel
        have hB2 : Below w.heap.size w wr := since_step hB hBr
        have hsz : w.heap.size ≤ wr.heap.size := hB2.size
        have hV2 := hV.below hBr
        have hs2 := hs0.below hBr
        obtain ⟨v0, v1, v2, v3⟩ := hV2.got
        by_cases hlt : k < L.length
        · omega
        · obtain rfl : k = L.length := by omega
          have HE : Hid (isE id mem 1 L = true) := Lib.hid (is_ok ⟨by omega, by omega, by omega, by omega, by omega, by omega, by omega, by omega, fun j hj => hno j hj hj, (risingL_iff ahN L).2 fun j hj => hah j hj hj⟩)
          clear hno hah
          go_wp2_with fail
          go_ret
          exact ⟨retB HE.out.symm, hB2⟩
  · have k1b : (kind == 1) = false := by simpa using k1
    by_cases k4 : kind = 4
    · by_cases l1 : 1 < L.length
      · have hl1 : (1 : Int) < (L.length : Int) := by omega
        have HE : Hid (isE id mem kind L = false) := Lib.hid (is_bad (by unfold okC; omega))
        subst k4
        clear hs0 hs hV
        go_enter Tryz.func79, Tryz.ntmps79
        go_wp2
        go_ret
        exact ⟨retB HE.out.symm, hB⟩
      · have hl1 : ¬ (1 : Int) < (L.length : Int) := by omega
        subst k4
        go_enter Tryz.func79, Tryz.ntmps79
        go_wp2_with fail
        go_loopw [3] (fun i wr => ∃ k : Nat, k ≤ L.length ∧ i = .int .i64 k ∧ (∀ j, (hj : j < L.length) → j < k → isCl L[j].n = true) ∧ (∀ j, (hj : j + 1 < L.length) → j + 1 < k → ahN (L[j]'(Nat.lt_of_succ_lt hj)) L[j + 1] = true) ∧ Below (w.alloc (.cells #[.int .i64 id, .int .i64 mem, .int .i64 4, .slice A L.length cap] 31)).heap.size (w.alloc (.cells #[.int .i64 id, .int .i64 mem, .int .i64 4, .slice A L.length cap] 31)) wr) (fun i _ => L.length - (intOf i).toNat)
        case atStart => exact ⟨0, by omega, rfl, fun j hj h => absurd h (by omega), fun j hj h => absurd h (by omega), Below.refl _ _⟩
        case round =>
          obtain ⟨k, hk, rfl, hno, hah, hBr⟩ := hrel
          have hB2 : Below w.heap.size w wr := since_step hB hBr
          have hsz : w.heap.size ≤ wr.heap.size := hB2.size
          have hV2 := hV.below hBr
          have hs2 := hs0.below hBr
          obtain ⟨v0, v1, v2, v3⟩ := hV2.got
          by_cases hlt : k < L.length
          · have HV : Hid (∀ V, Below wr.heap.size wr V → Ac.Bx V w.heap.size ⟨id, mem, 4, A, L.length, cap⟩) := Lib.hid fun V hV' => hV2.below hV'
            obtain ⟨b, o, rfl, hbw, hg⟩ := hs2.nt hlt
            have HK1 : Hid (∀ V, Below wr.heap.size wr V → L[k].at V b (o + k)) := Lib.hid fun V hV' => Nt.at_keep hg fun i => hV'.cell (p := ⟨b, i, none⟩) hbw
            have hlk : (k : Int) < (L.length : Int) := by omega
            have hcl : isCl L[k].n = (decide (1 ≤ L[k].n) && decide (L[k].n ≤ 16)) := rfl
            by_cases c1 : L[k].n < 1
            · have HE : Hid (isE id mem 4 L = false) := Lib.hid (is_bad (fun h => by have := h.2.2.2.2.2.2.2.2.1 k hlt; rw [hcl] at this; simp at this; omega))
              clear hno hah hs2 hs0 hV hs hV2 hg hcl
              generalize L[k] = x at HK1 c1
              have t1 : decide (x.n < 1) = true := decide_eq_true c1
              go_wp2_with fail
              clear v0 v1 v2 v3
              refine wp_region_held_drew (S := (fun V => Below wr.heap.size wr V)) (by kernel_rfl) (by exact (Below.refl _ _).drew) (fun hHeld => ?_)
              refine tkI 0 59 rfl (by intro w hSw; obtain ⟨v0, v1, v2, v3⟩ := (HV.out _ hSw).got; obtain ⟨g0, gT⟩ := HK1.out _ hSw; go_simp <;> with_reducible rfl) hHeld ?_; simp only [pqZ]
              refine tkI 1 60 rfl (by intro w hSw; obtain ⟨v0, v1, v2, v3⟩ := (HV.out _ hSw).got; obtain ⟨g0, gT⟩ := HK1.out _ hSw; go_simp <;> with_reducible rfl) hHeld ?_; simp only [pqZ]
              refine tkI 2 61 rfl (by intro w hSw; obtain ⟨v0, v1, v2, v3⟩ := (HV.out _ hSw).got; obtain ⟨g0, gT⟩ := HK1.out _ hSw; go_simp <;> with_reducible rfl) hHeld ?_; simp only [pqZ]
              refine tkI 3 62 rfl (by intro w hSw; obtain ⟨v0, v1, v2, v3⟩ := (HV.out _ hSw).got; obtain ⟨g0, gT⟩ := HK1.out _ hSw; go_simp <;> with_reducible rfl) hHeld ?_; simp only [pqZ]
              refine tkI 4 63 rfl (by intro w hSw; obtain ⟨v0, v1, v2, v3⟩ := (HV.out _ hSw).got; obtain ⟨g0, gT⟩ := HK1.out _ hSw; go_simp <;> with_reducible rfl) hHeld ?_; simp only [pqZ]
              refine tkI 5 64 rfl (by intro w hSw; obtain ⟨v0, v1, v2, v3⟩ := (HV.out _ hSw).got; obtain ⟨g0, gT⟩ := HK1.out _ hSw; go_simp <;> with_reducible rfl) hHeld ?_; simp only [pqZ]
              refine tkI 6 65 rfl (by intro w hSw; obtain ⟨v0, v1, v2, v3⟩ := (HV.out _ hSw).got; obtain ⟨g0, gT⟩ := HK1.out _ hSw; go_simp <;> with_reducible rfl) hHeld ?_; simp only [pqZ]
              refine tkO 7 66 rfl (by kernel_rfl) (by rfl) hHeld ?_; simp only [pqZ]
              refine tkO 8 67 rfl (by kernel_rfl) (by rfl) hHeld ?_; simp only [pqZ]
              refine tkO 9 68 rfl (by kernel_rfl) (by rfl) hHeld ?_; simp only [pqZ]
              refine tkO 10 69 rfl (by kernel_rfl) (by rfl) hHeld ?_; simp only [pqZ]
              refine tkO 11 70 rfl (by kernel_rfl) (by rfl) hHeld ?_; simp only [pqZ]
              refine tkO 12 71 rfl (by kernel_rfl) (by rfl) hHeld ?_; simp only [pqZ]
              refine tkI 13 72 rfl (by intro w hSw; obtain ⟨v0, v1, v2, v3⟩ := (HV.out _ hSw).got; obtain ⟨g0, gT⟩ := HK1.out _ hSw; go_simp <;> with_reducible rfl) hHeld ?_; simp only [pqZ]
              refine tkI 14 73 rfl (by intro w hSw; obtain ⟨v0, v1, v2, v3⟩ := (HV.out _ hSw).got; obtain ⟨g0, gT⟩ := HK1.out _ hSw; go_simp <;> with_reducible rfl) hHeld ?_; simp only [pqZ]
              refine tkO 15 74 rfl (by kernel_rfl) (by rfl) hHeld ?_; simp only [pqZ]
              refine tkO 16 75 rfl (by kernel_rfl) (by rfl) hHeld ?_; simp only [pqZ]
              refine tkO 17 76 rfl (by kernel_rfl) (by rfl) hHeld ?_; simp only [pqZ]
              refine tkO 18 77 rfl (by kernel_rfl) (by rfl) hHeld ?_; simp only [pqZ]
              refine tkO 19 78 rfl (by kernel_rfl) (by rfl) hHeld ?_; simp only [pqZ]
              refine tkO 20 79 rfl (by kernel_rfl) (by rfl) hHeld ?_; simp only [pqZ]
              refine tkO 21 80 rfl (by kernel_rfl) (by rfl) hHeld ?_; simp only [pqZ]
              refine tkO 22 81 rfl (by kernel_rfl) (by rfl) hHeld ?_; simp only [pqZ]
              refine tkO 23 82 rfl (by kernel_rfl) (by rfl) hHeld ?_; simp only [pqZ]
              refine tkO 24 83 rfl (by kernel_rfl) (by rfl) hHeld ?_; simp only [pqZ]
              refine tkO 25 84 rfl (by kernel_rfl) (by rfl) hHeld ?_; simp only [pqZ]
              refine tkO 26 85 rfl (by kernel_rfl) (by rfl) hHeld ?_; simp only [pqZ]
              refine tkO 27 86 rfl (by kernel_rfl) (by rfl) hHeld ?_; simp only [pqZ]
              refine tkO 28 87 rfl (by kernel_rfl) (by rfl) hHeld ?_; simp only [pqZ]
              refine tkO 29 88 rfl (by kernel_rfl) (by rfl) hHeld ?_; simp only [pqZ]
              refine tkO 30 89 rfl (by kernel_rfl) (by rfl) hHeld ?_; simp only [pqZ]
              refine tkI 31 90 rfl (by intro w hSw; obtain ⟨v0, v1, v2, v3⟩ := (HV.out _ hSw).got; obtain ⟨g0, gT⟩ := HK1.out _ hSw; go_simp <;> with_reducible rfl) hHeld ?_; simp only [pqZ]
              refine wpAnyH_done (by kernel_rfl) ?_ _
              have hB4 := hB2.trans (hHeld.mono hsz)
              go_wp2_with fail
              go_ret
              exact ⟨retB HE.out.symm, hB4⟩
            · by_cases c2 : 16 < L[k].n
              · have HE : Hid (isE id mem 4 L = false) := Lib.hid (is_bad (fun h => by have := h.2.2.2.2.2.2.2.2.1 k hlt; rw [hcl] at this; simp at this; omega))
                clear hno hah hs2 hs0 hV hs hV2 hg hcl
                generalize L[k] = x at HK1 c1 c2
                have t1 : decide (x.n < 1) = false := decide_eq_false c1
                have t2 : decide (16 < x.n) = true := decide_eq_true c2
                go_wp2_with fail
                clear v0 v1 v2 v3
                refine wp_region_held_drew (S := (fun V => Below wr.heap.size wr V)) (by kernel_rfl) (by exact (Below.refl _ _).drew) (fun hHeld => ?_)
                refine tkI 0 59 rfl (by intro w hSw; obtain ⟨v0, v1, v2, v3⟩ := (HV.out _ hSw).got; obtain ⟨g0, gT⟩ := HK1.out _ hSw; go_simp <;> with_reducible rfl) hHeld ?_; simp only [pqZ]
                refine tkI 1 60 rfl (by intro w hSw; obtain ⟨v0, v1, v2, v3⟩ := (HV.out _ hSw).got; obtain ⟨g0, gT⟩ := HK1.out _ hSw; go_simp <;> with_reducible rfl) hHeld ?_; simp only [pqZ]
                refine tkI 2 61 rfl (by intro w hSw; obtain ⟨v0, v1, v2, v3⟩ := (HV.out _ hSw).got; obtain ⟨g0, gT⟩ := HK1.out _ hSw; go_simp <;> with_reducible rfl) hHeld ?_; simp only [pqZ]
                refine tkI 3 62 rfl (by intro w hSw; obtain ⟨v0, v1, v2, v3⟩ := (HV.out _ hSw).got; obtain ⟨g0, gT⟩ := HK1.out _ hSw; go_simp <;> with_reducible rfl) hHeld ?_; simp only [pqZ]
                refine tkI 4 63 rfl (by intro w hSw; obtain ⟨v0, v1, v2, v3⟩ := (HV.out _ hSw).got; obtain ⟨g0, gT⟩ := HK1.out _ hSw; go_simp <;> with_reducible rfl) hHeld ?_; simp only [pqZ]
                refine tkI 5 64 rfl (by intro w hSw; obtain ⟨v0, v1, v2, v3⟩ := (HV.out _ hSw).got; obtain ⟨g0, gT⟩ := HK1.out _ hSw; go_simp <;> with_reducible rfl) hHeld ?_; simp only [pqZ]
                refine tkI 6 65 rfl (by intro w hSw; obtain ⟨v0, v1, v2, v3⟩ := (HV.out _ hSw).got; obtain ⟨g0, gT⟩ := HK1.out _ hSw; go_simp <;> with_reducible rfl) hHeld ?_; simp only [pqZ]
                refine tkI 7 66 rfl (by intro w hSw; obtain ⟨v0, v1, v2, v3⟩ := (HV.out _ hSw).got; obtain ⟨g0, gT⟩ := HK1.out _ hSw; go_simp <;> with_reducible rfl) hHeld ?_; simp only [pqZ]
                refine tkI 8 67 rfl (by intro w hSw; obtain ⟨v0, v1, v2, v3⟩ := (HV.out _ hSw).got; obtain ⟨g0, gT⟩ := HK1.out _ hSw; go_simp <;> with_reducible rfl) hHeld ?_; simp only [pqZ]
                refine tkI 9 68 rfl (by intro w hSw; obtain ⟨v0, v1, v2, v3⟩ := (HV.out _ hSw).got; obtain ⟨g0, gT⟩ := HK1.out _ hSw; go_simp <;> with_reducible rfl) hHeld ?_; simp only [pqZ]
                refine tkI 10 69 rfl (by intro w hSw; obtain ⟨v0, v1, v2, v3⟩ := (HV.out _ hSw).got; obtain ⟨g0, gT⟩ := HK1.out _ hSw; go_simp <;> with_reducible rfl) hHeld ?_; simp only [pqZ]
                refine tkI 11 70 rfl (by intro w hSw; obtain ⟨v0, v1, v2, v3⟩ := (HV.out _ hSw).got; obtain ⟨g0, gT⟩ := HK1.out _ hSw; go_simp <;> with_reducible rfl) hHeld ?_; simp only [pqZ]
                refine tkI 12 71 rfl (by intro w hSw; obtain ⟨v0, v1, v2, v3⟩ := (HV.out _ hSw).got; obtain ⟨g0, gT⟩ := HK1.out _ hSw; go_simp <;> with_reducible rfl) hHeld ?_; simp only [pqZ]
                refine tkI 13 72 rfl (by intro w hSw; obtain ⟨v0, v1, v2, v3⟩ := (HV.out _ hSw).got; obtain ⟨g0, gT⟩ := HK1.out _ hSw; go_simp <;> with_reducible rfl) hHeld ?_; simp only [pqZ]
                refine tkI 14 73 rfl (by intro w hSw; obtain ⟨v0, v1, v2, v3⟩ := (HV.out _ hSw).got; obtain ⟨g0, gT⟩ := HK1.out _ hSw; go_simp <;> with_reducible rfl) hHeld ?_; simp only [pqZ]
                refine tkO 15 74 rfl (by kernel_rfl) (by rfl) hHeld ?_; simp only [pqZ]
                refine tkO 16 75 rfl (by kernel_rfl) (by rfl) hHeld ?_; simp only [pqZ]
                refine tkO 17 76 rfl (by kernel_rfl) (by rfl) hHeld ?_; simp only [pqZ]
                refine tkO 18 77 rfl (by kernel_rfl) (by rfl) hHeld ?_; simp only [pqZ]
                refine tkO 19 78 rfl (by kernel_rfl) (by rfl) hHeld ?_; simp only [pqZ]
                refine tkO 20 79 rfl (by kernel_rfl) (by rfl) hHeld ?_; simp only [pqZ]
                refine tkO 21 80 rfl (by kernel_rfl) (by rfl) hHeld ?_; simp only [pqZ]
                refine tkO 22 81 rfl (by kernel_rfl) (by rfl) hHeld ?_; simp only [pqZ]
                refine tkO 23 82 rfl (by kernel_rfl) (by rfl) hHeld ?_; simp only [pqZ]
                refine tkO 24 83 rfl (by kernel_rfl) (by rfl) hHeld ?_; simp only [pqZ]
                refine tkO 25 84 rfl (by kernel_rfl) (by rfl) hHeld ?_; simp only [pqZ]
                refine tkO 26 85 rfl (by kernel_rfl) (by rfl) hHeld ?_; simp only [pqZ]
                refine tkO 27 86 rfl (by kernel_rfl) (by rfl) hHeld ?_; simp only [pqZ]
                refine tkO 28 87 rfl (by kernel_rfl) (by rfl) hHeld ?_; simp only [pqZ]
                refine tkO 29 88 rfl (by kernel_rfl) (by rfl) hHeld ?_; simp only [pqZ]
                refine tkO 30 89 rfl (by kernel_rfl) (by rfl) hHeld ?_; simp only [pqZ]
                refine tkI 31 90 rfl (by intro w hSw; obtain ⟨v0, v1, v2, v3⟩ := (HV.out _ hSw).got; obtain ⟨g0, gT⟩ := HK1.out _ hSw; go_simp <;> with_reducible rfl) hHeld ?_; simp only [pqZ]
                refine wpAnyH_done (by kernel_rfl) ?_ _
                have hB4 := hB2.trans (hHeld.mono hsz)
                go_wp2_with fail
                go_ret
                exact ⟨retB HE.out.symm, hB4⟩
              · have hok : isCl L[k].n = true := by rw [hcl]; simp; omega
                have hno2 : ∀ j, (hj : j < L.length) → j < k + 1 → isCl L[j].n = true := fun j hj hjk => by
                  rcases Nat.lt_or_ge j k with h | h
                  · exact hno j hj h
                  · obtain rfl : j = k := by omega
                    exact hok
                cases k with
                | zero =>
                  simp only [Nat.add_zero] at HK1
                  have HN := Lib.hid (show (∀ j, (hj : j < L.length) → j < 1 → isCl L[j].n = true) ∧ (∀ j, (hj : j + 1 < L.length) → j + 1 < 1 → ahN (L[j]'(Nat.lt_of_succ_lt hj)) L[j + 1] = true) from ⟨hno2, fun j hj h => absurd h (by omega)⟩)
                  clear hno hah hs2 hs0 hV hs hV2 hg hcl hno2 hok
                  generalize L[0] = x at HK1 c1 c2
                  have hl0 : (0 : Int) < (L.length : Int) := by omega
                  have t1 : decide (x.n < 1) = false := decide_eq_false c1
                  have t2 : decide (16 < x.n) = false := decide_eq_false c2
                  go_wp2_with fail
                  clear v0 v1 v2 v3
                  refine wp_region_held_drew (S := (fun V => Below wr.heap.size wr V)) (by kernel_rfl) (by exact (Below.refl _ _).drew) (fun hHeld => ?_)
                  refine tkI 0 59 rfl (by intro w hSw; obtain ⟨v0, v1, v2, v3⟩ := (HV.out _ hSw).got; obtain ⟨g0, gT⟩ := HK1.out _ hSw; go_simp <;> with_reducible rfl) hHeld ?_; simp only [pqZ]
                  refine tkI 1 60 rfl (by intro w hSw; obtain ⟨v0, v1, v2, v3⟩ := (HV.out _ hSw).got; obtain ⟨g0, gT⟩ := HK1.out _ hSw; go_simp <;> with_reducible rfl) hHeld ?_; simp only [pqZ]
                  refine tkI 2 61 rfl (by intro w hSw; obtain ⟨v0, v1, v2, v3⟩ := (HV.out _ hSw).got; obtain ⟨g0, gT⟩ := HK1.out _ hSw; go_simp <;> with_reducible rfl) hHeld ?_; simp only [pqZ]
                  refine tkI 3 62 rfl (by intro w hSw; obtain ⟨v0, v1, v2, v3⟩ := (HV.out _ hSw).got; obtain ⟨g0, gT⟩ := HK1.out _ hSw; go_simp <;> with_reducible rfl) hHeld ?_; simp only [pqZ]
                  refine tkI 4 63 rfl (by intro w hSw; obtain ⟨v0, v1, v2, v3⟩ := (HV.out _ hSw).got; obtain ⟨g0, gT⟩ := HK1.out _ hSw; go_simp <;> with_reducible rfl) hHeld ?_; simp only [pqZ]
                  refine tkI 5 64 rfl (by intro w hSw; obtain ⟨v0, v1, v2, v3⟩ := (HV.out _ hSw).got; obtain ⟨g0, gT⟩ := HK1.out _ hSw; go_simp <;> with_reducible rfl) hHeld ?_; simp only [pqZ]
                  refine tkI 6 65 rfl (by intro w hSw; obtain ⟨v0, v1, v2, v3⟩ := (HV.out _ hSw).got; obtain ⟨g0, gT⟩ := HK1.out _ hSw; go_simp <;> with_reducible rfl) hHeld ?_; simp only [pqZ]
                  refine tkI 7 66 rfl (by intro w hSw; obtain ⟨v0, v1, v2, v3⟩ := (HV.out _ hSw).got; obtain ⟨g0, gT⟩ := HK1.out _ hSw; go_simp <;> with_reducible rfl) hHeld ?_; simp only [pqZ]
                  refine tkI 8 67 rfl (by intro w hSw; obtain ⟨v0, v1, v2, v3⟩ := (HV.out _ hSw).got; obtain ⟨g0, gT⟩ := HK1.out _ hSw; go_simp <;> with_reducible rfl) hHeld ?_; simp only [pqZ]
                  refine tkI 9 68 rfl (by intro w hSw; obtain ⟨v0, v1, v2, v3⟩ := (HV.out _ hSw).got; obtain ⟨g0, gT⟩ := HK1.out _ hSw; go_simp <;> with_reducible rfl) hHeld ?_; simp only [pqZ]
                  refine tkI 10 69 rfl (by intro w hSw; obtain ⟨v0, v1, v2, v3⟩ := (HV.out _ hSw).got; obtain ⟨g0, gT⟩ := HK1.out _ hSw; go_simp <;> with_reducible rfl) hHeld ?_; simp only [pqZ]
                  refine tkI 11 70 rfl (by intro w hSw; obtain ⟨v0, v1, v2, v3⟩ := (HV.out _ hSw).got; obtain ⟨g0, gT⟩ := HK1.out _ hSw; go_simp <;> with_reducible rfl) hHeld ?_; simp only [pqZ]
                  refine tkI 12 71 rfl (by intro w hSw; obtain ⟨v0, v1, v2, v3⟩ := (HV.out _ hSw).got; obtain ⟨g0, gT⟩ := HK1.out _ hSw; go_simp <;> with_reducible rfl) hHeld ?_; simp only [pqZ]
                  refine tkI 13 72 rfl (by intro w hSw; obtain ⟨v0, v1, v2, v3⟩ := (HV.out _ hSw).got; obtain ⟨g0, gT⟩ := HK1.out _ hSw; go_simp <;> with_reducible rfl) hHeld ?_; simp only [pqZ]
                  refine tkI 14 73 rfl (by intro w hSw; obtain ⟨v0, v1, v2, v3⟩ := (HV.out _ hSw).got; obtain ⟨g0, gT⟩ := HK1.out _ hSw; go_simp <;> with_reducible rfl) hHeld ?_; simp only [pqZ]
                  refine tkI 15 74 rfl (by intro w hSw; obtain ⟨v0, v1, v2, v3⟩ := (HV.out _ hSw).got; obtain ⟨g0, gT⟩ := HK1.out _ hSw; go_simp <;> with_reducible rfl) hHeld ?_; simp only [pqZ]
                  refine tkI 16 75 rfl (by intro w hSw; obtain ⟨v0, v1, v2, v3⟩ := (HV.out _ hSw).got; obtain ⟨g0, gT⟩ := HK1.out _ hSw; go_simp <;> with_reducible rfl) hHeld ?_; simp only [pqZ]
                  refine tkI 17 76 rfl (by intro w hSw; obtain ⟨v0, v1, v2, v3⟩ := (HV.out _ hSw).got; obtain ⟨g0, gT⟩ := HK1.out _ hSw; go_simp <;> with_reducible rfl) hHeld ?_; simp only [pqZ]
                  refine tkO 18 77 rfl (by kernel_rfl) (by rfl) hHeld ?_; simp only [pqZ]
                  refine tkO 19 78 rfl (by kernel_rfl) (by rfl) hHeld ?_; simp only [pqZ]
                  refine tkO 20 79 rfl (by kernel_rfl) (by rfl) hHeld ?_; simp only [pqZ]
                  refine tkO 21 80 rfl (by kernel_rfl) (by rfl) hHeld ?_; simp only [pqZ]
                  refine tkO 22 81 rfl (by kernel_rfl) (by rfl) hHeld ?_; simp only [pqZ]
                  refine tkO 23 82 rfl (by kernel_rfl) (by rfl) hHeld ?_; simp only [pqZ]
                  refine tkO 24 83 rfl (by kernel_rfl) (by rfl) hHeld ?_; simp only [pqZ]
                  refine tkO 25 84 rfl (by kernel_rfl) (by rfl) hHeld ?_; simp only [pqZ]
                  refine tkO 26 85 rfl (by kernel_rfl) (by rfl) hHeld ?_; simp only [pqZ]
                  refine tkO 27 86 rfl (by kernel_rfl) (by rfl) hHeld ?_; simp only [pqZ]
                  refine tkO 28 87 rfl (by kernel_rfl) (by rfl) hHeld ?_; simp only [pqZ]
                  refine tkO 29 88 rfl (by kernel_rfl) (by rfl) hHeld ?_; simp only [pqZ]
                  refine tkI 30 89 rfl (by intro w hSw; obtain ⟨v0, v1, v2, v3⟩ := (HV.out _ hSw).got; obtain ⟨g0, gT⟩ := HK1.out _ hSw; go_simp <;> with_reducible rfl) hHeld ?_; simp only [pqZ]
                  refine tkI 31 90 rfl (by intro w hSw; obtain ⟨v0, v1, v2, v3⟩ := (HV.out _ hSw).got; obtain ⟨g0, gT⟩ := HK1.out _ hSw; go_simp <;> with_reducible rfl) hHeld ?_; simp only [pqZ]
                  refine wpAnyH_done (by kernel_rfl) ?_ _
                  have hB4 := hBr.trans (hHeld.mono hBr.size)
                  go_wp2_with fail
                  go_roundw
                  case rel => exact ⟨1, by omega, by go_num, HN.out.1, HN.out.2, hB4⟩
                  case measure => simp [intOf]; omega
                | succ k => omega
          · obtain rfl : k = L.length := by omega
            have HE : Hid (isE id mem 4 L = true) := Lib.hid (is_ok ⟨by omega, by omega, by omega, by omega, by omega, by omega, by omega, by omega, fun j hj => hno j hj hj, (risingL_iff ahN L).2 fun j hj => hah j hj hj⟩)
            clear hno hah
            go_wp2_with fail
            go_ret
            exact ⟨retB HE.out.symm, hB2⟩
    · have k4b : (kind == 4) = false := by simpa using k4
      go_enter Tryz.func79, Tryz.ntmps79
      go_wp2_with fail
      go_loopw [3] (fun i wr => ∃ k : Nat, k ≤ L.length ∧ i = .int .i64 k ∧ (∀ j, (hj : j < L.length) → j < k → isCl L[j].n = true) ∧ (∀ j, (hj : j + 1 < L.length) → j + 1 < k → ahN (L[j]'(Nat.lt_of_succ_lt hj)) L[j + 1] = true) ∧ Below (w.alloc (.cells #[.int .i64 id, .int .i64 mem, .int .i64 kind, .slice A L.length cap] 31)).heap.size (w.alloc (.cells #[.int .i64 id, .int .i64 mem, .int .i64 kind, .slice A L.length cap] 31)) wr) (fun i _ => L.length - (intOf i).toNat)
      case atStart => exact ⟨0, by omega, rfl, fun j hj h => absurd h (by omega), fun j hj h => absurd h (by omega), Below.refl _ _⟩
      case round =>
        obtain ⟨k, hk, rfl, hno, hah, hBr⟩ := hrel
        have hB2 : Below w.heap.size w wr := since_step hB hBr
        have hsz : w.heap.size ≤ wr.heap.size := hB2.size
        have hV2 := hV.below hBr
        have hs2 := hs0.below hBr
        obtain ⟨v0, v1, v2, v3⟩ := hV2.got
        by_cases hlt : k < L.length
        · have HV : Hid (∀ V, Below wr.heap.size wr V → Ac.Bx V w.heap.size ⟨id, mem, kind, A, L.length, cap⟩) := Lib.hid fun V hV' => hV2.below hV'
          obtain ⟨b, o, rfl, hbw, hg⟩ := hs2.nt hlt
          have HK1 : Hid (∀ V, Below wr.heap.size wr V → L[k].at V b (o + k)) := Lib.hid fun V hV' => Nt.at_keep hg fun i => hV'.cell (p := ⟨b, i, none⟩) hbw
          have hlk : (k : Int) < (L.length : Int) := by omega
          have hcl : isCl L[k].n = (decide (1 ≤ L[k].n) && decide (L[k].n ≤ 16)) := rfl
          by_cases c1 : L[k].n < 1
          · have HE : Hid (isE id mem kind L = false) := Lib.hid (is_bad (fun h => by have := h.2.2.2.2.2.2.2.2.1 k hlt; rw [hcl] at this; simp at this; omega))
            clear hno hah hs2 hs0 hV hs hV2 hg hcl
            generalize L[k] = x at HK1 c1
            have t1 : decide (x.n < 1) = true := decide_eq_true c1
            go_wp2_with fail
            clear v0 v1 v2 v3
            refine wp_region_held_drew (S := (fun V => Below wr.heap.size wr V)) (by kernel_rfl) (by exact (Below.refl _ _).drew) (fun hHeld => ?_)
            refine tkI 0 59 rfl (by intro w hSw; obtain ⟨v0, v1, v2, v3⟩ := (HV.out _ hSw).got; obtain ⟨g0, gT⟩ := HK1.out _ hSw; go_simp <;> with_reducible rfl) hHeld ?_; simp only [pqZ]
            refine tkI 1 60 rfl (by intro w hSw; obtain ⟨v0, v1, v2, v3⟩ := (HV.out _ hSw).got; obtain ⟨g0, gT⟩ := HK1.out _ hSw; go_simp <;> with_reducible rfl) hHeld ?_; simp only [pqZ]
            refine tkI 2 61 rfl (by intro w hSw; obtain ⟨v0, v1, v2, v3⟩ := (HV.out _ hSw).got; obtain ⟨g0, gT⟩ := HK1.out _ hSw; go_simp <;> with_reducible rfl) hHeld ?_; simp only [pqZ]
            refine tkI 3 62 rfl (by intro w hSw; obtain ⟨v0, v1, v2, v3⟩ := (HV.out _ hSw).got; obtain ⟨g0, gT⟩ := HK1.out _ hSw; go_simp <;> with_reducible rfl) hHeld ?_; simp only [pqZ]
            refine tkI 4 63 rfl (by intro w hSw; obtain ⟨v0, v1, v2, v3⟩ := (HV.out _ hSw).got; obtain ⟨g0, gT⟩ := HK1.out _ hSw; go_simp <;> with_reducible rfl) hHeld ?_; simp only [pqZ]
            refine tkI 5 64 rfl (by intro w hSw; obtain ⟨v0, v1, v2, v3⟩ := (HV.out _ hSw).got; obtain ⟨g0, gT⟩ := HK1.out _ hSw; go_simp <;> with_reducible rfl) hHeld ?_; simp only [pqZ]
            refine tkI 6 65 rfl (by intro w hSw; obtain ⟨v0, v1, v2, v3⟩ := (HV.out _ hSw).got; obtain ⟨g0, gT⟩ := HK1.out _ hSw; go_simp <;> with_reducible rfl) hHeld ?_; simp only [pqZ]
            refine tkO 7 66 rfl (by kernel_rfl) (by rfl) hHeld ?_; simp only [pqZ]
            refine tkO 8 67 rfl (by kernel_rfl) (by rfl) hHeld ?_; simp only [pqZ]
            refine tkO 9 68 rfl (by kernel_rfl) (by rfl) hHeld ?_; simp only [pqZ]
            refine tkO 10 69 rfl (by kernel_rfl) (by rfl) hHeld ?_; simp only [pqZ]
            refine tkO 11 70 rfl (by kernel_rfl) (by rfl) hHeld ?_; simp only [pqZ]
            refine tkO 12 71 rfl (by kernel_rfl) (by rfl) hHeld ?_; simp only [pqZ]
            refine tkI 13 72 rfl (by intro w hSw; obtain ⟨v0, v1, v2, v3⟩ := (HV.out _ hSw).got; obtain ⟨g0, gT⟩ := HK1.out _ hSw; go_simp <;> with_reducible rfl) hHeld ?_; simp only [pqZ]
            refine tkI 14 73 rfl (by intro w hSw; obtain ⟨v0, v1, v2, v3⟩ := (HV.out _ hSw).got; obtain ⟨g0, gT⟩ := HK1.out _ hSw; go_simp <;> with_reducible rfl) hHeld ?_; simp only [pqZ]
            refine tkO 15 74 rfl (by kernel_rfl) (by rfl) hHeld ?_; simp only [pqZ]
            refine tkO 16 75 rfl (by kernel_rfl) (by rfl) hHeld ?_; simp only [pqZ]
            refine tkO 17 76 rfl (by kernel_rfl) (by rfl) hHeld ?_; simp only [pqZ]
            refine tkO 18 77 rfl (by kernel_rfl) (by rfl) hHeld ?_; simp only [pqZ]
            refine tkO 19 78 rfl (by kernel_rfl) (by rfl) hHeld ?_; simp only [pqZ]
            refine tkO 20 79 rfl (by kernel_rfl) (by rfl) hHeld ?_; simp only [pqZ]
            refine tkO 21 80 rfl (by kernel_rfl) (by rfl) hHeld ?_; simp only [pqZ]
            refine tkO 22 81 rfl (by kernel_rfl) (by rfl) hHeld ?_; simp only [pqZ]
            refine tkO 23 82 rfl (by kernel_rfl) (by rfl) hHeld ?_; simp only [pqZ]
            refine tkO 24 83 rfl (by kernel_rfl) (by rfl) hHeld ?_; simp only [pqZ]
            refine tkO 25 84 rfl (by kernel_rfl) (by rfl) hHeld ?_; simp only [pqZ]
            refine tkO 26 85 rfl (by kernel_rfl) (by rfl) hHeld ?_; simp only [pqZ]
            refine tkO 27 86 rfl (by kernel_rfl) (by rfl) hHeld ?_; simp only [pqZ]
            refine tkO 28 87 rfl (by kernel_rfl) (by rfl) hHeld ?_; simp only [pqZ]
            refine tkO 29 88 rfl (by kernel_rfl) (by rfl) hHeld ?_; simp only [pqZ]
            refine tkO 30 89 rfl (by kernel_rfl) (by rfl) hHeld ?_; simp only [pqZ]
            refine tkI 31 90 rfl (by intro w hSw; obtain ⟨v0, v1, v2, v3⟩ := (HV.out _ hSw).got; obtain ⟨g0, gT⟩ := HK1.out _ hSw; go_simp <;> with_reducible rfl) hHeld ?_; simp only [pqZ]
            refine wpAnyH_done (by kernel_rfl) ?_ _
            have hB4 := hB2.trans (hHeld.mono hsz)
            go_wp2_with fail
            go_ret
            exact ⟨retB HE.out.symm, hB4⟩
          · by_cases c2 : 16 < L[k].n
            · have HE : Hid (isE id mem kind L = false) := Lib.hid (is_bad (fun h => by have := h.2.2.2.2.2.2.2.2.1 k hlt; rw [hcl] at this; simp at this; omega))
              clear hno hah hs2 hs0 hV hs hV2 hg hcl
              generalize L[k] = x at HK1 c1 c2
              have t1 : decide (x.n < 1) = false := decide_eq_false c1
              have t2 : decide (16 < x.n) = true := decide_eq_true c2
              go_wp2_with fail
              clear v0 v1 v2 v3
              refine wp_region_held_drew (S := (fun V => Below wr.heap.size wr V)) (by kernel_rfl) (by exact (Below.refl _ _).drew) (fun hHeld => ?_)
              refine tkI 0 59 rfl (by intro w hSw; obtain ⟨v0, v1, v2, v3⟩ := (HV.out _ hSw).got; obtain ⟨g0, gT⟩ := HK1.out _ hSw; go_simp <;> with_reducible rfl) hHeld ?_; simp only [pqZ]
              refine tkI 1 60 rfl (by intro w hSw; obtain ⟨v0, v1, v2, v3⟩ := (HV.out _ hSw).got; obtain ⟨g0, gT⟩ := HK1.out _ hSw; go_simp <;> with_reducible rfl) hHeld ?_; simp only [pqZ]
              refine tkI 2 61 rfl (by intro w hSw; obtain ⟨v0, v1, v2, v3⟩ := (HV.out _ hSw).got; obtain ⟨g0, gT⟩ := HK1.out _ hSw; go_simp <;> with_reducible rfl) hHeld ?_; simp only [pqZ]
              refine tkI 3 62 rfl (by intro w hSw; obtain ⟨v0, v1, v2, v3⟩ := (HV.out _ hSw).got; obtain ⟨g0, gT⟩ := HK1.out _ hSw; go_simp <;> with_reducible rfl) hHeld ?_; simp only [pqZ]
              refine tkI 4 63 rfl (by intro w hSw; obtain ⟨v0, v1, v2, v3⟩ := (HV.out _ hSw).got; obtain ⟨g0, gT⟩ := HK1.out _ hSw; go_simp <;> with_reducible rfl) hHeld ?_; simp only [pqZ]
              refine tkI 5 64 rfl (by intro w hSw; obtain ⟨v0, v1, v2, v3⟩ := (HV.out _ hSw).got; obtain ⟨g0, gT⟩ := HK1.out _ hSw; go_simp <;> with_reducible rfl) hHeld ?_; simp only [pqZ]
              refine tkI 6 65 rfl (by intro w hSw; obtain ⟨v0, v1, v2, v3⟩ := (HV.out _ hSw).got; obtain ⟨g0, gT⟩ := HK1.out _ hSw; go_simp <;> with_reducible rfl) hHeld ?_; simp only [pqZ]
              refine tkI 7 66 rfl (by intro w hSw; obtain ⟨v0, v1, v2, v3⟩ := (HV.out _ hSw).got; obtain ⟨g0, gT⟩ := HK1.out _ hSw; go_simp <;> with_reducible rfl) hHeld ?_; simp only [pqZ]
              refine tkI 8 67 rfl (by intro w hSw; obtain ⟨v0, v1, v2, v3⟩ := (HV.out _ hSw).got; obtain ⟨g0, gT⟩ := HK1.out _ hSw; go_simp <;> with_reducible rfl) hHeld ?_; simp only [pqZ]
              refine tkI 9 68 rfl (by intro w hSw; obtain ⟨v0, v1, v2, v3⟩ := (HV.out _ hSw).got; obtain ⟨g0, gT⟩ := HK1.out _ hSw; go_simp <;> with_reducible rfl) hHeld ?_; simp only [pqZ]
              refine tkI 10 69 rfl (by intro w hSw; obtain ⟨v0, v1, v2, v3⟩ := (HV.out _ hSw).got; obtain ⟨g0, gT⟩ := HK1.out _ hSw; go_simp <;> with_reducible rfl) hHeld ?_; simp only [pqZ]
              refine tkI 11 70 rfl (by intro w hSw; obtain ⟨v0, v1, v2, v3⟩ := (HV.out _ hSw).got; obtain ⟨g0, gT⟩ := HK1.out _ hSw; go_simp <;> with_reducible rfl) hHeld ?_; simp only [pqZ]
              refine tkI 12 71 rfl (by intro w hSw; obtain ⟨v0, v1, v2, v3⟩ := (HV.out _ hSw).got; obtain ⟨g0, gT⟩ := HK1.out _ hSw; go_simp <;> with_reducible rfl) hHeld ?_; simp only [pqZ]
              refine tkI 13 72 rfl (by intro w hSw; obtain ⟨v0, v1, v2, v3⟩ := (HV.out _ hSw).got; obtain ⟨g0, gT⟩ := HK1.out _ hSw; go_simp <;> with_reducible rfl) hHeld ?_; simp only [pqZ]
              refine tkI 14 73 rfl (by intro w hSw; obtain ⟨v0, v1, v2, v3⟩ := (HV.out _ hSw).got; obtain ⟨g0, gT⟩ := HK1.out _ hSw; go_simp <;> with_reducible rfl) hHeld ?_; simp only [pqZ]
              refine tkO 15 74 rfl (by kernel_rfl) (by rfl) hHeld ?_; simp only [pqZ]
              refine tkO 16 75 rfl (by kernel_rfl) (by rfl) hHeld ?_; simp only [pqZ]
              refine tkO 17 76 rfl (by kernel_rfl) (by rfl) hHeld ?_; simp only [pqZ]
              refine tkO 18 77 rfl (by kernel_rfl) (by rfl) hHeld ?_; simp only [pqZ]
              refine tkO 19 78 rfl (by kernel_rfl) (by rfl) hHeld ?_; simp only [pqZ]
              refine tkO 20 79 rfl (by kernel_rfl) (by rfl) hHeld ?_; simp only [pqZ]
              refine tkO 21 80 rfl (by kernel_rfl) (by rfl) hHeld ?_; simp only [pqZ]
              refine tkO 22 81 rfl (by kernel_rfl) (by rfl) hHeld ?_; simp only [pqZ]
              refine tkO 23 82 rfl (by kernel_rfl) (by rfl) hHeld ?_; simp only [pqZ]
              refine tkO 24 83 rfl (by kernel_rfl) (by rfl) hHeld ?_; simp only [pqZ]
              refine tkO 25 84 rfl (by kernel_rfl) (by rfl) hHeld ?_; simp only [pqZ]
              refine tkO 26 85 rfl (by kernel_rfl) (by rfl) hHeld ?_; simp only [pqZ]
              refine tkO 27 86 rfl (by kernel_rfl) (by rfl) hHeld ?_; simp only [pqZ]
              refine tkO 28 87 rfl (by kernel_rfl) (by rfl) hHeld ?_; simp only [pqZ]
              refine tkO 29 88 rfl (by kernel_rfl) (by rfl) hHeld ?_; simp only [pqZ]
              refine tkO 30 89 rfl (by kernel_rfl) (by rfl) hHeld ?_; simp only [pqZ]
              refine tkI 31 90 rfl (by intro w hSw; obtain ⟨v0, v1, v2, v3⟩ := (HV.out _ hSw).got; obtain ⟨g0, gT⟩ := HK1.out _ hSw; go_simp <;> with_reducible rfl) hHeld ?_; simp only [pqZ]
              refine wpAnyH_done (by kernel_rfl) ?_ _
              have hB4 := hB2.trans (hHeld.mono hsz)
              go_wp2_with fail
              go_ret
              exact ⟨retB HE.out.symm, hB4⟩
            · have hok : isCl L[k].n = true := by rw [hcl]; simp; omega
              have hno2 : ∀ j, (hj : j < L.length) → j < k + 1 → isCl L[j].n = true := fun j hj hjk => by
                rcases Nat.lt_or_ge j k with h | h
                · exact hno j hj h
                · obtain rfl : j = k := by omega
                  exact hok
              cases k with
              | zero =>
                simp only [Nat.add_zero] at HK1
                have HN := Lib.hid (show (∀ j, (hj : j < L.length) → j < 1 → isCl L[j].n = true) ∧ (∀ j, (hj : j + 1 < L.length) → j + 1 < 1 → ahN (L[j]'(Nat.lt_of_succ_lt hj)) L[j + 1] = true) from ⟨hno2, fun j hj h => absurd h (by omega)⟩)
                clear hno hah hs2 hs0 hV hs hV2 hg hcl hno2 hok
                generalize L[0] = x at HK1 c1 c2
                have hl0 : (0 : Int) < (L.length : Int) := by omega
                have t1 : decide (x.n < 1) = false := decide_eq_false c1
                have t2 : decide (16 < x.n) = false := decide_eq_false c2
                go_wp2_with fail
                clear v0 v1 v2 v3
                refine wp_region_held_drew (S := (fun V => Below wr.heap.size wr V)) (by kernel_rfl) (by exact (Below.refl _ _).drew) (fun hHeld => ?_)
                refine tkI 0 59 rfl (by intro w hSw; obtain ⟨v0, v1, v2, v3⟩ := (HV.out _ hSw).got; obtain ⟨g0, gT⟩ := HK1.out _ hSw; go_simp <;> with_reducible rfl) hHeld ?_; simp only [pqZ]
                refine tkI 1 60 rfl (by intro w hSw; obtain ⟨v0, v1, v2, v3⟩ := (HV.out _ hSw).got; obtain ⟨g0, gT⟩ := HK1.out _ hSw; go_simp <;> with_reducible rfl) hHeld ?_; simp only [pqZ]
                refine tkI 2 61 rfl (by intro w hSw; obtain ⟨v0, v1, v2, v3⟩ := (HV.out _ hSw).got; obtain ⟨g0, gT⟩ := HK1.out _ hSw; go_simp <;> with_reducible rfl) hHeld ?_; simp only [pqZ]
                refine tkI 3 62 rfl (by intro w hSw; obtain ⟨v0, v1, v2, v3⟩ := (HV.out _ hSw).got; obtain ⟨g0, gT⟩ := HK1.out _ hSw; go_simp <;> with_reducible rfl) hHeld ?_; simp only [pqZ]
                refine tkI 4 63 rfl (by intro w hSw; obtain ⟨v0, v1, v2, v3⟩ := (HV.out _ hSw).got; obtain ⟨g0, gT⟩ := HK1.out _ hSw; go_simp <;> with_reducible rfl) hHeld ?_; simp only [pqZ]
                refine tkI 5 64 rfl (by intro w hSw; obtain ⟨v0, v1, v2, v3⟩ := (HV.out _ hSw).got; obtain ⟨g0, gT⟩ := HK1.out _ hSw; go_simp <;> with_reducible rfl) hHeld ?_; simp only [pqZ]
                refine tkI 6 65 rfl (by intro w hSw; obtain ⟨v0, v1, v2, v3⟩ := (HV.out _ hSw).got; obtain ⟨g0, gT⟩ := HK1.out _ hSw; go_simp <;> with_reducible rfl) hHeld ?_; simp only [pqZ]
                refine tkI 7 66 rfl (by intro w hSw; obtain ⟨v0, v1, v2, v3⟩ := (HV.out _ hSw).got; obtain ⟨g0, gT⟩ := HK1.out _ hSw; go_simp <;> with_reducible rfl) hHeld ?_; simp only [pqZ]
                refine tkI 8 67 rfl (by intro w hSw; obtain ⟨v0, v1, v2, v3⟩ := (HV.out _ hSw).got; obtain ⟨g0, gT⟩ := HK1.out _ hSw; go_simp <;> with_reducible rfl) hHeld ?_; simp only [pqZ]
                refine tkI 9 68 rfl (by intro w hSw; obtain ⟨v0, v1, v2, v3⟩ := (HV.out _ hSw).got; obtain ⟨g0, gT⟩ := HK1.out _ hSw; go_simp <;> with_reducible rfl) hHeld ?_; simp only [pqZ]
                refine tkI 10 69 rfl (by intro w hSw; obtain ⟨v0, v1, v2, v3⟩ := (HV.out _ hSw).got; obtain ⟨g0, gT⟩ := HK1.out _ hSw; go_simp <;> with_reducible rfl) hHeld ?_; simp only [pqZ]
                refine tkI 11 70 rfl (by intro w hSw; obtain ⟨v0, v1, v2, v3⟩ := (HV.out _ hSw).got; obtain ⟨g0, gT⟩ := HK1.out _ hSw; go_simp <;> with_reducible rfl) hHeld ?_; simp only [pqZ]
                refine tkI 12 71 rfl (by intro w hSw; obtain ⟨v0, v1, v2, v3⟩ := (HV.out _ hSw).got; obtain ⟨g0, gT⟩ := HK1.out _ hSw; go_simp <;> with_reducible rfl) hHeld ?_; simp only [pqZ]
                refine tkI 13 72 rfl (by intro w hSw; obtain ⟨v0, v1, v2, v3⟩ := (HV.out _ hSw).got; obtain ⟨g0, gT⟩ := HK1.out _ hSw; go_simp <;> with_reducible rfl) hHeld ?_; simp only [pqZ]
                refine tkI 14 73 rfl (by intro w hSw; obtain ⟨v0, v1, v2, v3⟩ := (HV.out _ hSw).got; obtain ⟨g0, gT⟩ := HK1.out _ hSw; go_simp <;> with_reducible rfl) hHeld ?_; simp only [pqZ]
                refine tkI 15 74 rfl (by intro w hSw; obtain ⟨v0, v1, v2, v3⟩ := (HV.out _ hSw).got; obtain ⟨g0, gT⟩ := HK1.out _ hSw; go_simp <;> with_reducible rfl) hHeld ?_; simp only [pqZ]
                refine tkI 16 75 rfl (by intro w hSw; obtain ⟨v0, v1, v2, v3⟩ := (HV.out _ hSw).got; obtain ⟨g0, gT⟩ := HK1.out _ hSw; go_simp <;> with_reducible rfl) hHeld ?_; simp only [pqZ]
                refine tkI 17 76 rfl (by intro w hSw; obtain ⟨v0, v1, v2, v3⟩ := (HV.out _ hSw).got; obtain ⟨g0, gT⟩ := HK1.out _ hSw; go_simp <;> with_reducible rfl) hHeld ?_; simp only [pqZ]
                refine tkO 18 77 rfl (by kernel_rfl) (by rfl) hHeld ?_; simp only [pqZ]
                refine tkO 19 78 rfl (by kernel_rfl) (by rfl) hHeld ?_; simp only [pqZ]
                refine tkO 20 79 rfl (by kernel_rfl) (by rfl) hHeld ?_; simp only [pqZ]
                refine tkO 21 80 rfl (by kernel_rfl) (by rfl) hHeld ?_; simp only [pqZ]
                refine tkO 22 81 rfl (by kernel_rfl) (by rfl) hHeld ?_; simp only [pqZ]
                refine tkO 23 82 rfl (by kernel_rfl) (by rfl) hHeld ?_; simp only [pqZ]
                refine tkO 24 83 rfl (by kernel_rfl) (by rfl) hHeld ?_; simp only [pqZ]
                refine tkO 25 84 rfl (by kernel_rfl) (by rfl) hHeld ?_; simp only [pqZ]
                refine tkO 26 85 rfl (by kernel_rfl) (by rfl) hHeld ?_; simp only [pqZ]
                refine tkO 27 86 rfl (by kernel_rfl) (by rfl) hHeld ?_; simp only [pqZ]
                refine tkO 28 87 rfl (by kernel_rfl) (by rfl) hHeld ?_; simp only [pqZ]
                refine tkO 29 88 rfl (by kernel_rfl) (by rfl) hHeld ?_; simp only [pqZ]
                refine tkI 30 89 rfl (by intro w hSw; obtain ⟨v0, v1, v2, v3⟩ := (HV.out _ hSw).got; obtain ⟨g0, gT⟩ := HK1.out _ hSw; go_simp <;> with_reducible rfl) hHeld ?_; simp only [pqZ]
                refine tkI 31 90 rfl (by intro w hSw; obtain ⟨v0, v1, v2, v3⟩ := (HV.out _ hSw).got; obtain ⟨g0, gT⟩ := HK1.out _ hSw; go_simp <;> with_reducible rfl) hHeld ?_; simp only [pqZ]
                refine wpAnyH_done (by kernel_rfl) ?_ _
                have hB4 := hBr.trans (hHeld.mono hBr.size)
                go_wp2_with fail
                go_roundw
                case rel => exact ⟨1, by omega, by go_num, HN.out.1, HN.out.2, hB4⟩
                case measure => simp [intOf]; omega
              | succ k =>
                have hk0 : k < L.length := by omega
                obtain ⟨b', o', e, hbw', hg'⟩ := hs2.nt hk0
                injection e with e
                injection e with e1 e2 e3
                subst e1; subst e2
                have HK0 : Hid (∀ V, Below wr.heap.size wr V → L[k].at V b (o + k)) := Lib.hid fun V hV' => Nt.at_keep hg' fun i => hV'.cell (p := ⟨b, i, none⟩) hbw
                have hw1 : IntKind.i64.wrap ((k : Int) + 1 - 1) = (k : Int) := by rw [IntKind.wrap_i64]; omega
                have hw0 : IntKind.i64.wrap (k : Int) = (k : Int) := by rw [IntKind.wrap_i64]; omega
                have hn0 : (0 : Int) ≤ (k : Int) := by omega
                have hn1 : (0 : Int) ≤ (k : Int) + 1 := by omega
                have hn2 : (0 : Int) < (k : Int) + 1 := by omega
                have htn : ((k : Int) + 1).toNat = k + 1 := by omega
                have hl1 : (k : Int) + 1 < (L.length : Int) := by omega
                have hl2 : (k : Int) < (L.length : Int) := by omega
                by_cases c3 : L[k + 1].n ≤ L[k].n
                · have HE : Hid (isE id mem kind L = false) := Lib.hid (is_bad (fun h => by have := (risingL_iff ahN L).1 h.2.2.2.2.2.2.2.2.2 k hlt; simp only [ahN, decide_eq_true_eq] at this; omega))
                  clear hno hah hs2 hs0 hV hs hV2 hg hg' hcl hno2 hok
                  generalize L[k + 1] = x at HK1 c1 c2 c3
                  generalize L[k] = y at HK0 c3
                  have t1 : decide (x.n < 1) = false := decide_eq_false c1
                  have t2 : decide (16 < x.n) = false := decide_eq_false c2
                  have t3 : decide (x.n ≤ y.n) = true := decide_eq_true c3
                  go_wp2_with fail
                  clear v0 v1 v2 v3
                  refine wp_region_held_drew (S := (fun V => Below wr.heap.size wr V)) (by kernel_rfl) (by exact (Below.refl _ _).drew) (fun hHeld => ?_)
                  refine tkI 0 59 rfl (by intro w hSw; obtain ⟨v0, v1, v2, v3⟩ := (HV.out _ hSw).got; obtain ⟨g0, gT⟩ := HK1.out _ hSw; obtain ⟨h0, hT⟩ := HK0.out _ hSw; go_simp <;> with_reducible rfl) hHeld ?_; simp only [pqZ]
                  refine tkI 1 60 rfl (by intro w hSw; obtain ⟨v0, v1, v2, v3⟩ := (HV.out _ hSw).got; obtain ⟨g0, gT⟩ := HK1.out _ hSw; obtain ⟨h0, hT⟩ := HK0.out _ hSw; go_simp <;> with_reducible rfl) hHeld ?_; simp only [pqZ]
                  refine tkI 2 61 rfl (by intro w hSw; obtain ⟨v0, v1, v2, v3⟩ := (HV.out _ hSw).got; obtain ⟨g0, gT⟩ := HK1.out _ hSw; obtain ⟨h0, hT⟩ := HK0.out _ hSw; go_simp <;> with_reducible rfl) hHeld ?_; simp only [pqZ]
                  refine tkI 3 62 rfl (by intro w hSw; obtain ⟨v0, v1, v2, v3⟩ := (HV.out _ hSw).got; obtain ⟨g0, gT⟩ := HK1.out _ hSw; obtain ⟨h0, hT⟩ := HK0.out _ hSw; go_simp <;> with_reducible rfl) hHeld ?_; simp only [pqZ]
                  refine tkI 4 63 rfl (by intro w hSw; obtain ⟨v0, v1, v2, v3⟩ := (HV.out _ hSw).got; obtain ⟨g0, gT⟩ := HK1.out _ hSw; obtain ⟨h0, hT⟩ := HK0.out _ hSw; go_simp <;> with_reducible rfl) hHeld ?_; simp only [pqZ]
                  refine tkI 5 64 rfl (by intro w hSw; obtain ⟨v0, v1, v2, v3⟩ := (HV.out _ hSw).got; obtain ⟨g0, gT⟩ := HK1.out _ hSw; obtain ⟨h0, hT⟩ := HK0.out _ hSw; go_simp <;> with_reducible rfl) hHeld ?_; simp only [pqZ]
                  refine tkI 6 65 rfl (by intro w hSw; obtain ⟨v0, v1, v2, v3⟩ := (HV.out _ hSw).got; obtain ⟨g0, gT⟩ := HK1.out _ hSw; obtain ⟨h0, hT⟩ := HK0.out _ hSw; go_simp <;> with_reducible rfl) hHeld ?_; simp only [pqZ]
                  refine tkI 7 66 rfl (by intro w hSw; obtain ⟨v0, v1, v2, v3⟩ := (HV.out _ hSw).got; obtain ⟨g0, gT⟩ := HK1.out _ hSw; obtain ⟨h0, hT⟩ := HK0.out _ hSw; go_simp <;> with_reducible rfl) hHeld ?_; simp only [pqZ]
                  refine tkI 8 67 rfl (by intro w hSw; obtain ⟨v0, v1, v2, v3⟩ := (HV.out _ hSw).got; obtain ⟨g0, gT⟩ := HK1.out _ hSw; obtain ⟨h0, hT⟩ := HK0.out _ hSw; go_simp <;> with_reducible rfl) hHeld ?_; simp only [pqZ]
                  refine tkI 9 68 rfl (by intro w hSw; obtain ⟨v0, v1, v2, v3⟩ := (HV.out _ hSw).got; obtain ⟨g0, gT⟩ := HK1.out _ hSw; obtain ⟨h0, hT⟩ := HK0.out _ hSw; go_simp <;> with_reducible rfl) hHeld ?_; simp only [pqZ]
                  refine tkI 10 69 rfl (by intro w hSw; obtain ⟨v0, v1, v2, v3⟩ := (HV.out _ hSw).got; obtain ⟨g0, gT⟩ := HK1.out _ hSw; obtain ⟨h0, hT⟩ := HK0.out _ hSw; go_simp <;> with_reducible rfl) hHeld ?_; simp only [pqZ]
                  refine tkI 11 70 rfl (by intro w hSw; obtain ⟨v0, v1, v2, v3⟩ := (HV.out _ hSw).got; obtain ⟨g0, gT⟩ := HK1.out _ hSw; obtain ⟨h0, hT⟩ := HK0.out _ hSw; go_simp <;> with_reducible rfl) hHeld ?_; simp only [pqZ]
                  refine tkI 12 71 rfl (by intro w hSw; obtain ⟨v0, v1, v2, v3⟩ := (HV.out _ hSw).got; obtain ⟨g0, gT⟩ := HK1.out _ hSw; obtain ⟨h0, hT⟩ := HK0.out _ hSw; go_simp <;> with_reducible rfl) hHeld ?_; simp only [pqZ]
                  refine tkI 13 72 rfl (by intro w hSw; obtain ⟨v0, v1, v2, v3⟩ := (HV.out _ hSw).got; obtain ⟨g0, gT⟩ := HK1.out _ hSw; obtain ⟨h0, hT⟩ := HK0.out _ hSw; go_simp <;> with_reducible rfl) hHeld ?_; simp only [pqZ]
                  refine tkI 14 73 rfl (by intro w hSw; obtain ⟨v0, v1, v2, v3⟩ := (HV.out _ hSw).got; obtain ⟨g0, gT⟩ := HK1.out _ hSw; obtain ⟨h0, hT⟩ := HK0.out _ hSw; go_simp <;> with_reducible rfl) hHeld ?_; simp only [pqZ]
                  refine tkI 15 74 rfl (by intro w hSw; obtain ⟨v0, v1, v2, v3⟩ := (HV.out _ hSw).got; obtain ⟨g0, gT⟩ := HK1.out _ hSw; obtain ⟨h0, hT⟩ := HK0.out _ hSw; go_simp <;> with_reducible rfl) hHeld ?_; simp only [pqZ]
                  refine tkI 16 75 rfl (by intro w hSw; obtain ⟨v0, v1, v2, v3⟩ := (HV.out _ hSw).got; obtain ⟨g0, gT⟩ := HK1.out _ hSw; obtain ⟨h0, hT⟩ := HK0.out _ hSw; go_simp <;> with_reducible rfl) hHeld ?_; simp only [pqZ]
                  refine tkI 17 76 rfl (by intro w hSw; obtain ⟨v0, v1, v2, v3⟩ := (HV.out _ hSw).got; obtain ⟨g0, gT⟩ := HK1.out _ hSw; obtain ⟨h0, hT⟩ := HK0.out _ hSw; go_simp <;> with_reducible rfl) hHeld ?_; simp only [pqZ]
                  refine tkI 18 77 rfl (by intro w hSw; obtain ⟨v0, v1, v2, v3⟩ := (HV.out _ hSw).got; obtain ⟨g0, gT⟩ := HK1.out _ hSw; obtain ⟨h0, hT⟩ := HK0.out _ hSw; go_simp <;> with_reducible rfl) hHeld ?_; simp only [pqZ]
                  refine tkI 19 78 rfl (by intro w hSw; obtain ⟨v0, v1, v2, v3⟩ := (HV.out _ hSw).got; obtain ⟨g0, gT⟩ := HK1.out _ hSw; obtain ⟨h0, hT⟩ := HK0.out _ hSw; go_simp <;> with_reducible rfl) hHeld ?_; simp only [pqZ]
                  refine tkI 20 79 rfl (by intro w hSw; obtain ⟨v0, v1, v2, v3⟩ := (HV.out _ hSw).got; obtain ⟨g0, gT⟩ := HK1.out _ hSw; obtain ⟨h0, hT⟩ := HK0.out _ hSw; go_simp <;> with_reducible rfl) hHeld ?_; simp only [pqZ]
                  refine tkI 21 80 rfl (by intro w hSw; obtain ⟨v0, v1, v2, v3⟩ := (HV.out _ hSw).got; obtain ⟨g0, gT⟩ := HK1.out _ hSw; obtain ⟨h0, hT⟩ := HK0.out _ hSw; go_simp <;> with_reducible rfl) hHeld ?_; simp only [pqZ]
                  refine tkI 22 81 rfl (by intro w hSw; obtain ⟨v0, v1, v2, v3⟩ := (HV.out _ hSw).got; obtain ⟨g0, gT⟩ := HK1.out _ hSw; obtain ⟨h0, hT⟩ := HK0.out _ hSw; go_simp <;> with_reducible rfl) hHeld ?_; simp only [pqZ]
                  refine tkI 23 82 rfl (by intro w hSw; obtain ⟨v0, v1, v2, v3⟩ := (HV.out _ hSw).got; obtain ⟨g0, gT⟩ := HK1.out _ hSw; obtain ⟨h0, hT⟩ := HK0.out _ hSw; go_simp <;> with_reducible rfl) hHeld ?_; simp only [pqZ]
                  refine tkI 24 83 rfl (by intro w hSw; obtain ⟨v0, v1, v2, v3⟩ := (HV.out _ hSw).got; obtain ⟨g0, gT⟩ := HK1.out _ hSw; obtain ⟨h0, hT⟩ := HK0.out _ hSw; go_simp <;> with_reducible rfl) hHeld ?_; simp only [pqZ]
                  refine tkI 25 84 rfl (by intro w hSw; obtain ⟨v0, v1, v2, v3⟩ := (HV.out _ hSw).got; obtain ⟨g0, gT⟩ := HK1.out _ hSw; obtain ⟨h0, hT⟩ := HK0.out _ hSw; go_simp <;> with_reducible rfl) hHeld ?_; simp only [pqZ]
                  refine tkI 26 85 rfl (by intro w hSw; obtain ⟨v0, v1, v2, v3⟩ := (HV.out _ hSw).got; obtain ⟨g0, gT⟩ := HK1.out _ hSw; obtain ⟨h0, hT⟩ := HK0.out _ hSw; go_simp <;> with_reducible rfl) hHeld ?_; simp only [pqZ]
                  refine tkI 27 86 rfl (by intro w hSw; obtain ⟨v0, v1, v2, v3⟩ := (HV.out _ hSw).got; obtain ⟨g0, gT⟩ := HK1.out _ hSw; obtain ⟨h0, hT⟩ := HK0.out _ hSw; go_simp <;> with_reducible rfl) hHeld ?_; simp only [pqZ]
                  refine tkI 28 87 rfl (by intro w hSw; obtain ⟨v0, v1, v2, v3⟩ := (HV.out _ hSw).got; obtain ⟨g0, gT⟩ := HK1.out _ hSw; obtain ⟨h0, hT⟩ := HK0.out _ hSw; go_simp <;> with_reducible rfl) hHeld ?_; simp only [pqZ]
                  refine tkI 29 88 rfl (by intro w hSw; obtain ⟨v0, v1, v2, v3⟩ := (HV.out _ hSw).got; obtain ⟨g0, gT⟩ := HK1.out _ hSw; obtain ⟨h0, hT⟩ := HK0.out _ hSw; go_simp <;> with_reducible rfl) hHeld ?_; simp only [pqZ]
                  refine tkI 30 89 rfl (by intro w hSw; obtain ⟨v0, v1, v2, v3⟩ := (HV.out _ hSw).got; obtain ⟨g0, gT⟩ := HK1.out _ hSw; obtain ⟨h0, hT⟩ := HK0.out _ hSw; go_simp <;> with_reducible rfl) hHeld ?_; simp only [pqZ]
                  refine tkI 31 90 rfl (by intro w hSw; obtain ⟨v0, v1, v2, v3⟩ := (HV.out _ hSw).got; obtain ⟨g0, gT⟩ := HK1.out _ hSw; obtain ⟨h0, hT⟩ := HK0.out _ hSw; go_simp <;> with_reducible rfl) hHeld ?_; simp only [pqZ]
                  refine wpAnyH_done (by kernel_rfl) ?_ _
                  have hB4 := hB2.trans (hHeld.mono hsz)
                  go_wp2_with fail
                  go_ret
                  exact ⟨retB HE.out.symm, hB4⟩
                · have HN := Lib.hid (show (∀ j, (hj : j < L.length) → j < k + 1 + 1 → isCl L[j].n = true) ∧ (∀ j, (hj : j + 1 < L.length) → j + 1 < k + 1 + 1 → ahN (L[j]'(Nat.lt_of_succ_lt hj)) L[j + 1] = true) from ⟨hno2, fun j hj hjk => by
                    rcases Nat.lt_or_ge (j + 1) (k + 1) with h | h
                    · exact hah j hj h
                    · obtain rfl : j = k := by omega
                      simp only [ahN, decide_eq_true_eq]; omega⟩)
                  clear hno hah hs2 hs0 hV hs hV2 hg hg' hcl hno2 hok
                  generalize L[k + 1] = x at HK1 c1 c2 c3
                  generalize L[k] = y at HK0 c3
                  have t1 : decide (x.n < 1) = false := decide_eq_false c1
                  have t2 : decide (16 < x.n) = false := decide_eq_false c2
                  have t3 : decide (x.n ≤ y.n) = false := decide_eq_false c3
                  go_wp2_with fail
                  clear v0 v1 v2 v3
                  refine wp_region_held_drew (S := (fun V => Below wr.heap.size wr V)) (by kernel_rfl) (by exact (Below.refl _ _).drew) (fun hHeld => ?_)
                  refine tkI 0 59 rfl (by intro w hSw; obtain ⟨v0, v1, v2, v3⟩ := (HV.out _ hSw).got; obtain ⟨g0, gT⟩ := HK1.out _ hSw; obtain ⟨h0, hT⟩ := HK0.out _ hSw; go_simp <;> with_reducible rfl) hHeld ?_; simp only [pqZ]
                  refine tkI 1 60 rfl (by intro w hSw; obtain ⟨v0, v1, v2, v3⟩ := (HV.out _ hSw).got; obtain ⟨g0, gT⟩ := HK1.out _ hSw; obtain ⟨h0, hT⟩ := HK0.out _ hSw; go_simp <;> with_reducible rfl) hHeld ?_; simp only [pqZ]
                  refine tkI 2 61 rfl (by intro w hSw; obtain ⟨v0, v1, v2, v3⟩ := (HV.out _ hSw).got; obtain ⟨g0, gT⟩ := HK1.out _ hSw; obtain ⟨h0, hT⟩ := HK0.out _ hSw; go_simp <;> with_reducible rfl) hHeld ?_; simp only [pqZ]
                  refine tkI 3 62 rfl (by intro w hSw; obtain ⟨v0, v1, v2, v3⟩ := (HV.out _ hSw).got; obtain ⟨g0, gT⟩ := HK1.out _ hSw; obtain ⟨h0, hT⟩ := HK0.out _ hSw; go_simp <;> with_reducible rfl) hHeld ?_; simp only [pqZ]
                  refine tkI 4 63 rfl (by intro w hSw; obtain ⟨v0, v1, v2, v3⟩ := (HV.out _ hSw).got; obtain ⟨g0, gT⟩ := HK1.out _ hSw; obtain ⟨h0, hT⟩ := HK0.out _ hSw; go_simp <;> with_reducible rfl) hHeld ?_; simp only [pqZ]
                  refine tkI 5 64 rfl (by intro w hSw; obtain ⟨v0, v1, v2, v3⟩ := (HV.out _ hSw).got; obtain ⟨g0, gT⟩ := HK1.out _ hSw; obtain ⟨h0, hT⟩ := HK0.out _ hSw; go_simp <;> with_reducible rfl) hHeld ?_; simp only [pqZ]
                  refine tkI 6 65 rfl (by intro w hSw; obtain ⟨v0, v1, v2, v3⟩ := (HV.out _ hSw).got; obtain ⟨g0, gT⟩ := HK1.out _ hSw; obtain ⟨h0, hT⟩ := HK0.out _ hSw; go_simp <;> with_reducible rfl) hHeld ?_; simp only [pqZ]
                  refine tkI 7 66 rfl (by intro w hSw; obtain ⟨v0, v1, v2, v3⟩ := (HV.out _ hSw).got; obtain ⟨g0, gT⟩ := HK1.out _ hSw; obtain ⟨h0, hT⟩ := HK0.out _ hSw; go_simp <;> with_reducible rfl) hHeld ?_; simp only [pqZ]
                  refine tkI 8 67 rfl (by intro w hSw; obtain ⟨v0, v1, v2, v3⟩ := (HV.out _ hSw).got; obtain ⟨g0, gT⟩ := HK1.out _ hSw; obtain ⟨h0, hT⟩ := HK0.out _ hSw; go_simp <;> with_reducible rfl) hHeld ?_; simp only [pqZ]
                  refine tkI 9 68 rfl (by intro w hSw; obtain ⟨v0, v1, v2, v3⟩ := (HV.out _ hSw).got; obtain ⟨g0, gT⟩ := HK1.out _ hSw; obtain ⟨h0, hT⟩ := HK0.out _ hSw; go_simp <;> with_reducible rfl) hHeld ?_; simp only [pqZ]
                  refine tkI 10 69 rfl (by intro w hSw; obtain ⟨v0, v1, v2, v3⟩ := (HV.out _ hSw).got; obtain ⟨g0, gT⟩ := HK1.out _ hSw; obtain ⟨h0, hT⟩ := HK0.out _ hSw; go_simp <;> with_reducible rfl) hHeld ?_; simp only [pqZ]
                  refine tkI 11 70 rfl (by intro w hSw; obtain ⟨v0, v1, v2, v3⟩ := (HV.out _ hSw).got; obtain ⟨g0, gT⟩ := HK1.out _ hSw; obtain ⟨h0, hT⟩ := HK0.out _ hSw; go_simp <;> with_reducible rfl) hHeld ?_; simp only [pqZ]
                  refine tkI 12 71 rfl (by intro w hSw; obtain ⟨v0, v1, v2, v3⟩ := (HV.out _ hSw).got; obtain ⟨g0, gT⟩ := HK1.out _ hSw; obtain ⟨h0, hT⟩ := HK0.out _ hSw; go_simp <;> with_reducible rfl) hHeld ?_; simp only [pqZ]
                  refine tkI 13 72 rfl (by intro w hSw; obtain ⟨v0, v1, v2, v3⟩ := (HV.out _ hSw).got; obtain ⟨g0, gT⟩ := HK1.out _ hSw; obtain ⟨h0, hT⟩ := HK0.out _ hSw; go_simp <;> with_reducible rfl) hHeld ?_; simp only [pqZ]
                  refine tkI 14 73 rfl (by intro w hSw; obtain ⟨v0, v1, v2, v3⟩ := (HV.out _ hSw).got; obtain ⟨g0, gT⟩ := HK1.out _ hSw; obtain ⟨h0, hT⟩ := HK0.out _ hSw; go_simp <;> with_reducible rfl) hHeld ?_; simp only [pqZ]
                  refine tkI 15 74 rfl (by intro w hSw; obtain ⟨v0, v1, v2, v3⟩ := (HV.out _ hSw).got; obtain ⟨g0, gT⟩ := HK1.out _ hSw; obtain ⟨h0, hT⟩ := HK0.out _ hSw; go_simp <;> with_reducible rfl) hHeld ?_; simp only [pqZ]
                  refine tkI 16 75 rfl (by intro w hSw; obtain ⟨v0, v1, v2, v3⟩ := (HV.out _ hSw).got; obtain ⟨g0, gT⟩ := HK1.out _ hSw; obtain ⟨h0, hT⟩ := HK0.out _ hSw; go_simp <;> with_reducible rfl) hHeld ?_; simp only [pqZ]
                  refine tkI 17 76 rfl (by intro w hSw; obtain ⟨v0, v1, v2, v3⟩ := (HV.out _ hSw).got; obtain ⟨g0, gT⟩ := HK1.out _ hSw; obtain ⟨h0, hT⟩ := HK0.out _ hSw; go_simp <;> with_reducible rfl) hHeld ?_; simp only [pqZ]
                  refine tkI 18 77 rfl (by intro w hSw; obtain ⟨v0, v1, v2, v3⟩ := (HV.out _ hSw).got; obtain ⟨g0, gT⟩ := HK1.out _ hSw; obtain ⟨h0, hT⟩ := HK0.out _ hSw; go_simp <;> with_reducible rfl) hHeld ?_; simp only [pqZ]
                  refine tkI 19 78 rfl (by intro w hSw; obtain ⟨v0, v1, v2, v3⟩ := (HV.out _ hSw).got; obtain ⟨g0, gT⟩ := HK1.out _ hSw; obtain ⟨h0, hT⟩ := HK0.out _ hSw; go_simp <;> with_reducible rfl) hHeld ?_; simp only [pqZ]
                  refine tkI 20 79 rfl (by intro w hSw; obtain ⟨v0, v1, v2, v3⟩ := (HV.out _ hSw).got; obtain ⟨g0, gT⟩ := HK1.out _ hSw; obtain ⟨h0, hT⟩ := HK0.out _ hSw; go_simp <;> with_reducible rfl) hHeld ?_; simp only [pqZ]
                  refine tkI 21 80 rfl (by intro w hSw; obtain ⟨v0, v1, v2, v3⟩ := (HV.out _ hSw).got; obtain ⟨g0, gT⟩ := HK1.out _ hSw; obtain ⟨h0, hT⟩ := HK0.out _ hSw; go_simp <;> with_reducible rfl) hHeld ?_; simp only [pqZ]
                  refine tkI 22 81 rfl (by intro w hSw; obtain ⟨v0, v1, v2, v3⟩ := (HV.out _ hSw).got; obtain ⟨g0, gT⟩ := HK1.out _ hSw; obtain ⟨h0, hT⟩ := HK0.out _ hSw; go_simp <;> with_reducible rfl) hHeld ?_; simp only [pqZ]
                  refine tkI 23 82 rfl (by intro w hSw; obtain ⟨v0, v1, v2, v3⟩ := (HV.out _ hSw).got; obtain ⟨g0, gT⟩ := HK1.out _ hSw; obtain ⟨h0, hT⟩ := HK0.out _ hSw; go_simp <;> with_reducible rfl) hHeld ?_; simp only [pqZ]
                  refine tkI 24 83 rfl (by intro w hSw; obtain ⟨v0, v1, v2, v3⟩ := (HV.out _ hSw).got; obtain ⟨g0, gT⟩ := HK1.out _ hSw; obtain ⟨h0, hT⟩ := HK0.out _ hSw; go_simp <;> with_reducible rfl) hHeld ?_; simp only [pqZ]
                  refine tkI 25 84 rfl (by intro w hSw; obtain ⟨v0, v1, v2, v3⟩ := (HV.out _ hSw).got; obtain ⟨g0, gT⟩ := HK1.out _ hSw; obtain ⟨h0, hT⟩ := HK0.out _ hSw; go_simp <;> with_reducible rfl) hHeld ?_; simp only [pqZ]
                  refine tkI 26 85 rfl (by intro w hSw; obtain ⟨v0, v1, v2, v3⟩ := (HV.out _ hSw).got; obtain ⟨g0, gT⟩ := HK1.out _ hSw; obtain ⟨h0, hT⟩ := HK0.out _ hSw; go_simp <;> with_reducible rfl) hHeld ?_; simp only [pqZ]
                  refine tkI 27 86 rfl (by intro w hSw; obtain ⟨v0, v1, v2, v3⟩ := (HV.out _ hSw).got; obtain ⟨g0, gT⟩ := HK1.out _ hSw; obtain ⟨h0, hT⟩ := HK0.out _ hSw; go_simp <;> with_reducible rfl) hHeld ?_; simp only [pqZ]
                  refine tkI 28 87 rfl (by intro w hSw; obtain ⟨v0, v1, v2, v3⟩ := (HV.out _ hSw).got; obtain ⟨g0, gT⟩ := HK1.out _ hSw; obtain ⟨h0, hT⟩ := HK0.out _ hSw; go_simp <;> with_reducible rfl) hHeld ?_; simp only [pqZ]
                  refine tkI 29 88 rfl (by intro w hSw; obtain ⟨v0, v1, v2, v3⟩ := (HV.out _ hSw).got; obtain ⟨g0, gT⟩ := HK1.out _ hSw; obtain ⟨h0, hT⟩ := HK0.out _ hSw; go_simp <;> with_reducible rfl) hHeld ?_; simp only [pqZ]
                  refine tkI 30 89 rfl (by intro w hSw; obtain ⟨v0, v1, v2, v3⟩ := (HV.out _ hSw).got; obtain ⟨g0, gT⟩ := HK1.out _ hSw; obtain ⟨h0, hT⟩ := HK0.out _ hSw; go_simp <;> with_reducible rfl) hHeld ?_; simp only [pqZ]
                  refine tkI 31 90 rfl (by intro w hSw; obtain ⟨v0, v1, v2, v3⟩ := (HV.out _ hSw).got; obtain ⟨g0, gT⟩ := HK1.out _ hSw; obtain ⟨h0, hT⟩ := HK0.out _ hSw; go_simp <;> with_reducible rfl) hHeld ?_; simp only [pqZ]
                  refine wpAnyH_done (by kernel_rfl) ?_ _
                  have hB4 := hBr.trans (hHeld.mono hBr.size)
                  go_wp2_with fail
                  go_roundw
                  case rel => exact ⟨k + 1 + 1, by omega, by go_num, HN.out.1, HN.out.2, hB4⟩
                  case measure => simp [intOf]; omega
        · obtain rfl : k = L.length := by omega
          have HE : Hid (isE id mem kind L = true) := Lib.hid (is_ok ⟨by omega, by omega, by omega, by omega, by omega, by omega, by omega, by omega, fun j hj => hno j hj hj, (risingL_iff ahN L).2 fun j hj => hah j hj hj⟩)
          clear hno hah
          go_wp2_with fail
          go_ret
          exact ⟨retB HE.out.symm, hB2⟩
end
end Go.Proofs.YtmjndpkfhdoljaaGreat
