/-
  Layer 15, second part: Check (laid by gen_acct2.py).
-/
import Derived.Test.YtpnaihnmmnjacaaAcct
import Derived.Test.YtpnaihnmmnjacaaAcV
namespace Go.Proofs.Ytpnaihnmmnjacaa
open Go.ChangeShapes Go.WideShapes Go.ChangeAt Go.RowKit
set_option linter.unusedVariables false
set_option linter.unusedSimpArgs false

/-- an account of these clients may be -/
def okC (id mem kind : Int) (L : List Nt) : Prop :=
  1 ≤ id ∧ id ≤ 16 ∧ 1 ≤ mem ∧ mem ≤ 8 ∧ 1 ≤ kind ∧ kind ≤ 4 ∧ (kind = 1 → L.length = 0) ∧ (kind = 4 → L.length ≤ 1) ∧ (∀ j, (h : j < L.length) → isCl L[j].n = true) ∧ risingL ahN L = true
open Classical in
/-- what Check answers -/
noncomputable def chkE (id mem kind : Int) (L : List Nt) : Int := if okC id mem kind L then 0 else 2
theorem chk_bad {id mem kind : Int} {L : List Nt} (h : ¬ okC id mem kind L) : chkE id mem kind L = 2 := if_neg h
theorem chk_ok {id mem kind : Int} {L : List Nt} (h : okC id mem kind L) : chkE id mem kind L = 0 := if_pos h

set_option maxHeartbeats 4000000 in
set_option maxRecDepth 100000 in
theorem check_any (id mem kind : Int) (A : Option Addr) (cap : Nat) (L : List Nt) (w : World) (hl : L.length ≤ 1000000) (hs : Sl w A (rc Nt.cells L)) :
    Calls Try.prog 15 #[.agg #[.int .i64 id, .int .i64 mem, .int .i64 kind, .slice A L.length cap]] w fun e w' => e = .returned (.int .i64 (chkE id mem kind L)) ∧ Below w.heap.size w w' := by
  have hB := since_alloc (Below.refl _ w) (.cells #[.int .i64 id, .int .i64 mem, .int .i64 kind, .slice A L.length cap] 24)
  have hV : Ac.Bx (w.alloc (.cells #[.int .i64 id, .int .i64 mem, .int .i64 kind, .slice A L.length cap] 24)) w.heap.size ⟨id, mem, kind, A, L.length, cap⟩ := Ac.Bx.new w ⟨id, mem, kind, A, L.length, cap⟩
  have hs0 := hs.alloc (.cells #[.int .i64 id, .int .i64 mem, .int .i64 kind, .slice A L.length cap] 24)
  by_cases b0 : id < 1
  · have HE : Hid (chkE id mem kind L = 2) := Lib.hid (chk_bad (by unfold okC; omega))
    clear hs0 hs hV
    go_enter Try.func15, Try.ntmps15
    go_wp2
    go_ret
    exact ⟨retI HE.out.symm, hB⟩
  by_cases b1 : 16 < id
  · have HE : Hid (chkE id mem kind L = 2) := Lib.hid (chk_bad (by unfold okC; omega))
    clear hs0 hs hV
    go_enter Try.func15, Try.ntmps15
    go_wp2
    go_ret
    exact ⟨retI HE.out.symm, hB⟩
  by_cases b2 : mem < 1
  · have HE : Hid (chkE id mem kind L = 2) := Lib.hid (chk_bad (by unfold okC; omega))
    clear hs0 hs hV
    go_enter Try.func15, Try.ntmps15
    go_wp2
    go_ret
    exact ⟨retI HE.out.symm, hB⟩
  by_cases b3 : 8 < mem
  · have HE : Hid (chkE id mem kind L = 2) := Lib.hid (chk_bad (by unfold okC; omega))
    clear hs0 hs hV
    go_enter Try.func15, Try.ntmps15
    go_wp2
    go_ret
    exact ⟨retI HE.out.symm, hB⟩
  by_cases b4 : kind < 1
  · have HE : Hid (chkE id mem kind L = 2) := Lib.hid (chk_bad (by unfold okC; omega))
    clear hs0 hs hV
    go_enter Try.func15, Try.ntmps15
    go_wp2
    go_ret
    exact ⟨retI HE.out.symm, hB⟩
  by_cases b5 : 4 < kind
  · have HE : Hid (chkE id mem kind L = 2) := Lib.hid (chk_bad (by unfold okC; omega))
    clear hs0 hs hV
    go_enter Try.func15, Try.ntmps15
    go_wp2
    go_ret
    exact ⟨retI HE.out.symm, hB⟩
  by_cases k1 : kind = 1
  · by_cases l1 : 0 < L.length
    · have hl1 : (0 : Int) < (L.length : Int) := by omega
      have HE : Hid (chkE id mem kind L = 2) := Lib.hid (chk_bad (by unfold okC; omega))
      subst k1
      clear hs0 hs hV
      go_enter Try.func15, Try.ntmps15
      go_wp2
      go_ret
      exact ⟨retI HE.out.symm, hB⟩
    · have hl1 : ¬ (0 : Int) < (L.length : Int) := by omega
      subst k1
      go_enter Try.func15, Try.ntmps15
      go_wp2_with fail
      go_loopw [56] (fun i wr => ∃ k : Nat, k ≤ L.length ∧ i = .int .i64 k ∧ (∀ j, (hj : j < L.length) → j < k → isCl L[j].n = true) ∧ Below (w.alloc (.cells #[.int .i64 id, .int .i64 mem, .int .i64 1, .slice A L.length cap] 24)).heap.size (w.alloc (.cells #[.int .i64 id, .int .i64 mem, .int .i64 1, .slice A L.length cap] 24)) wr) (fun i _ => L.length - (intOf i).toNat)
      case atStart => exact ⟨0, by omega, rfl, fun j hj h => absurd h (by omega), Below.refl _ _⟩
      case round =>
        obtain ⟨k, hk, rfl, hno, hBr⟩ := hrel
        have hB2 : Below w.heap.size w wr := since_step hB hBr
        have hV2 := hV.below hBr
        have hs2 := hs0.below hBr
        by_cases hlt : k < L.length
        · obtain ⟨b, o, rfl, hbw, hg⟩ := hs2.nt hlt
          obtain ⟨g0, gT⟩ := hg
          obtain ⟨q, hq⟩ : ∃ q, isCl L[k].n = q := ⟨_, rfl⟩
          have HQ := Lib.hid hq
          have HNO := Lib.hid hno
          clear hno hq hs2 hs0 hV hs
          cases q with
          | false =>
            have HE : Hid (chkE id mem 1 L = 2) := Lib.hid (chk_bad (fun h => by have := h.2.2.2.2.2.2.2.2.1 k hlt; rw [HQ.out] at this; cases this))
            go_wp2_with fail
            refine (isClient_any L[k].n _).mono ?_
            rintro e w1 ⟨rfl, hb1⟩
            rw [HQ.out]
            have hB3 := since_step hB2 hb1
            clear hb1
            go_wp2_with fail
            go_ret
            exact ⟨retI HE.out.symm, hB3⟩
          | true =>
            go_wp2_with fail
            refine (isClient_any L[k].n _).mono ?_
            rintro e w1 ⟨rfl, hb1⟩
            rw [HQ.out]
            have hB3 := hBr.trans (hb1.mono hBr.size)
            clear hb1
            go_wp2_with fail
            go_roundw
            case rel =>
              refine ⟨k + 1, by omega, by go_num, fun j hj hjk => ?_, hB3⟩
              rcases Nat.lt_or_ge j k with h | h
              · exact HNO.out j hj h
              · obtain rfl : j = k := by omega
                exact HQ.out
            case measure => simp [intOf]; omega
        · have HALL := Lib.hid (show ∀ j, (hj : j < L.length) → isCl L[j].n = true from fun j hj => hno j hj (by omega))
          obtain ⟨g0, g1, g2, g3⟩ := hV2.got
          obtain ⟨q, hq⟩ : ∃ q, risingL ahN L = q := ⟨_, rfl⟩
          have HQ := Lib.hid hq
          clear hno hq
          cases q with
          | false =>
            have HE : Hid (chkE id mem 1 L = 2) := Lib.hid (chk_bad (fun h => by have := h.2.2.2.2.2.2.2.2.2; rw [HQ.out] at this; cases this))
            go_wp2_with fail
            refine (rising_nt A cap L 82 #[] ahN _ hl hs2 ent_before (tells_before _ _)).mono ?_
            rintro e w1 ⟨rfl, hb1⟩
            rw [HQ.out]
            have hB3 := since_step hB2 hb1
            go_wp2_with fail
            go_ret
            exact ⟨retI HE.out.symm, hB3⟩
          | true =>
            have HE : Hid (chkE id mem 1 L = 0) := Lib.hid (chk_ok ⟨by omega, by omega, by omega, by omega, by omega, by omega, by omega, by omega, HALL.out, HQ.out⟩)
            go_wp2_with fail
            refine (rising_nt A cap L 82 #[] ahN _ hl hs2 ent_before (tells_before _ _)).mono ?_
            rintro e w1 ⟨rfl, hb1⟩
            rw [HQ.out]
            have hB3 := since_step hB2 hb1
            go_wp2_with fail
            go_ret
            exact ⟨retI HE.out.symm, hB3⟩
  · have k1b : (kind == 1) = false := by simpa using k1
    by_cases k4 : kind = 4
    · by_cases l1 : 1 < L.length
      · have hl1 : (1 : Int) < (L.length : Int) := by omega
        have HE : Hid (chkE id mem kind L = 2) := Lib.hid (chk_bad (by unfold okC; omega))
        subst k4
        clear hs0 hs hV
        go_enter Try.func15, Try.ntmps15
        go_wp2
        go_ret
        exact ⟨retI HE.out.symm, hB⟩
      · have hl1 : ¬ (1 : Int) < (L.length : Int) := by omega
        subst k4
        go_enter Try.func15, Try.ntmps15
        go_wp2_with fail
        go_loopw [56] (fun i wr => ∃ k : Nat, k ≤ L.length ∧ i = .int .i64 k ∧ (∀ j, (hj : j < L.length) → j < k → isCl L[j].n = true) ∧ Below (w.alloc (.cells #[.int .i64 id, .int .i64 mem, .int .i64 4, .slice A L.length cap] 24)).heap.size (w.alloc (.cells #[.int .i64 id, .int .i64 mem, .int .i64 4, .slice A L.length cap] 24)) wr) (fun i _ => L.length - (intOf i).toNat)
        case atStart => exact ⟨0, by omega, rfl, fun j hj h => absurd h (by omega), Below.refl _ _⟩
        case round =>
          obtain ⟨k, hk, rfl, hno, hBr⟩ := hrel
          have hB2 : Below w.heap.size w wr := since_step hB hBr
          have hV2 := hV.below hBr
          have hs2 := hs0.below hBr
          by_cases hlt : k < L.length
          · obtain ⟨b, o, rfl, hbw, hg⟩ := hs2.nt hlt
            obtain ⟨g0, gT⟩ := hg
            obtain ⟨q, hq⟩ : ∃ q, isCl L[k].n = q := ⟨_, rfl⟩
            have HQ := Lib.hid hq
            have HNO := Lib.hid hno
            clear hno hq hs2 hs0 hV hs
            cases q with
            | false =>
              have HE : Hid (chkE id mem 4 L = 2) := Lib.hid (chk_bad (fun h => by have := h.2.2.2.2.2.2.2.2.1 k hlt; rw [HQ.out] at this; cases this))
              go_wp2_with fail
              refine (isClient_any L[k].n _).mono ?_
              rintro e w1 ⟨rfl, hb1⟩
              rw [HQ.out]
              have hB3 := since_step hB2 hb1
              clear hb1
              go_wp2_with fail
              go_ret
              exact ⟨retI HE.out.symm, hB3⟩
            | true =>
              go_wp2_with fail
              refine (isClient_any L[k].n _).mono ?_
              rintro e w1 ⟨rfl, hb1⟩
              rw [HQ.out]
              have hB3 := hBr.trans (hb1.mono hBr.size)
              clear hb1
              go_wp2_with fail
              go_roundw
              case rel =>
                refine ⟨k + 1, by omega, by go_num, fun j hj hjk => ?_, hB3⟩
                rcases Nat.lt_or_ge j k with h | h
                · exact HNO.out j hj h
                · obtain rfl : j = k := by omega
                  exact HQ.out
              case measure => simp [intOf]; omega
          · have HALL := Lib.hid (show ∀ j, (hj : j < L.length) → isCl L[j].n = true from fun j hj => hno j hj (by omega))
            obtain ⟨g0, g1, g2, g3⟩ := hV2.got
            obtain ⟨q, hq⟩ : ∃ q, risingL ahN L = q := ⟨_, rfl⟩
            have HQ := Lib.hid hq
            clear hno hq
            cases q with
            | false =>
              have HE : Hid (chkE id mem 4 L = 2) := Lib.hid (chk_bad (fun h => by have := h.2.2.2.2.2.2.2.2.2; rw [HQ.out] at this; cases this))
              go_wp2_with fail
              refine (rising_nt A cap L 82 #[] ahN _ hl hs2 ent_before (tells_before _ _)).mono ?_
              rintro e w1 ⟨rfl, hb1⟩
              rw [HQ.out]
              have hB3 := since_step hB2 hb1
              go_wp2_with fail
              go_ret
              exact ⟨retI HE.out.symm, hB3⟩
            | true =>
              have HE : Hid (chkE id mem 4 L = 0) := Lib.hid (chk_ok ⟨by omega, by omega, by omega, by omega, by omega, by omega, by omega, by omega, HALL.out, HQ.out⟩)
              go_wp2_with fail
              refine (rising_nt A cap L 82 #[] ahN _ hl hs2 ent_before (tells_before _ _)).mono ?_
              rintro e w1 ⟨rfl, hb1⟩
              rw [HQ.out]
              have hB3 := since_step hB2 hb1
              go_wp2_with fail
              go_ret
              exact ⟨retI HE.out.symm, hB3⟩
    · have k4b : (kind == 4) = false := by simpa using k4
      go_enter Try.func15, Try.ntmps15
      go_wp2_with fail
      go_loopw [56] (fun i wr => ∃ k : Nat, k ≤ L.length ∧ i = .int .i64 k ∧ (∀ j, (hj : j < L.length) → j < k → isCl L[j].n = true) ∧ Below (w.alloc (.cells #[.int .i64 id, .int .i64 mem, .int .i64 kind, .slice A L.length cap] 24)).heap.size (w.alloc (.cells #[.int .i64 id, .int .i64 mem, .int .i64 kind, .slice A L.length cap] 24)) wr) (fun i _ => L.length - (intOf i).toNat)
      case atStart => exact ⟨0, by omega, rfl, fun j hj h => absurd h (by omega), Below.refl _ _⟩
      case round =>
        obtain ⟨k, hk, rfl, hno, hBr⟩ := hrel
        have hB2 : Below w.heap.size w wr := since_step hB hBr
        have hV2 := hV.below hBr
        have hs2 := hs0.below hBr
        by_cases hlt : k < L.length
        · obtain ⟨b, o, rfl, hbw, hg⟩ := hs2.nt hlt
          obtain ⟨g0, gT⟩ := hg
          obtain ⟨q, hq⟩ : ∃ q, isCl L[k].n = q := ⟨_, rfl⟩
          have HQ := Lib.hid hq
          have HNO := Lib.hid hno
          clear hno hq hs2 hs0 hV hs
          cases q with
          | false =>
            have HE : Hid (chkE id mem kind L = 2) := Lib.hid (chk_bad (fun h => by have := h.2.2.2.2.2.2.2.2.1 k hlt; rw [HQ.out] at this; cases this))
            go_wp2_with fail
            refine (isClient_any L[k].n _).mono ?_
            rintro e w1 ⟨rfl, hb1⟩
            rw [HQ.out]
            have hB3 := since_step hB2 hb1
            clear hb1
            go_wp2_with fail
            go_ret
            exact ⟨retI HE.out.symm, hB3⟩
          | true =>
            go_wp2_with fail
            refine (isClient_any L[k].n _).mono ?_
            rintro e w1 ⟨rfl, hb1⟩
            rw [HQ.out]
            have hB3 := hBr.trans (hb1.mono hBr.size)
            clear hb1
            go_wp2_with fail
            go_roundw
            case rel =>
              refine ⟨k + 1, by omega, by go_num, fun j hj hjk => ?_, hB3⟩
              rcases Nat.lt_or_ge j k with h | h
              · exact HNO.out j hj h
              · obtain rfl : j = k := by omega
                exact HQ.out
            case measure => simp [intOf]; omega
        · have HALL := Lib.hid (show ∀ j, (hj : j < L.length) → isCl L[j].n = true from fun j hj => hno j hj (by omega))
          obtain ⟨g0, g1, g2, g3⟩ := hV2.got
          obtain ⟨q, hq⟩ : ∃ q, risingL ahN L = q := ⟨_, rfl⟩
          have HQ := Lib.hid hq
          clear hno hq
          cases q with
          | false =>
            have HE : Hid (chkE id mem kind L = 2) := Lib.hid (chk_bad (fun h => by have := h.2.2.2.2.2.2.2.2.2; rw [HQ.out] at this; cases this))
            go_wp2_with fail
            refine (rising_nt A cap L 82 #[] ahN _ hl hs2 ent_before (tells_before _ _)).mono ?_
            rintro e w1 ⟨rfl, hb1⟩
            rw [HQ.out]
            have hB3 := since_step hB2 hb1
            go_wp2_with fail
            go_ret
            exact ⟨retI HE.out.symm, hB3⟩
          | true =>
            have HE : Hid (chkE id mem kind L = 0) := Lib.hid (chk_ok ⟨by omega, by omega, by omega, by omega, by omega, by omega, by omega, by omega, HALL.out, HQ.out⟩)
            go_wp2_with fail
            refine (rising_nt A cap L 82 #[] ahN _ hl hs2 ent_before (tells_before _ _)).mono ?_
            rintro e w1 ⟨rfl, hb1⟩
            rw [HQ.out]
            have hB3 := since_step hB2 hb1
            go_wp2_with fail
            go_ret
            exact ⟨retI HE.out.symm, hB3⟩
end Go.Proofs.Ytpnaihnmmnjacaa
