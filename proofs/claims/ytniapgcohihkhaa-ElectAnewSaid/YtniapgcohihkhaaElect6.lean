/-
  Layer 16, sixth part: Elect, Agree of both sides (laid by gen_elect6.py).
-/
import Derived.Test.YtniapgcohihkhaaElect5
namespace Go.Proofs.Ytniapgcohihkhaa
open Go.ChangeShapes Go.WideShapes Go.ChangeAt Go.RowKit
set_option linter.unusedVariables false
set_option linter.unusedSimpArgs false

/-- a row, and an error's number -/
def ElRes (B : Nat) (w' : World) (e : Ending) (R : Int × List Ch) : Prop :=
  ∃ A' c', e = .returned (.tuple #[.slice A' R.2.length c', .int .i64 R.1]) ∧ w'.ownsRow B 54 5 (.slice A' R.2.length c') R.2.length (rc Ch.cells R.2)
theorem ElRes.nil (B : Nat) (w' : World) (n : Int) : ElRes B w' (.returned (.tuple #[.slice none 0 0, .int .i64 n])) (n, []) := ⟨none, 0, rfl, own_nil _ _ _⟩

set_option maxHeartbeats 4000000 in
theorem eelect_any (A : Option Addr) (cap : Nat) (l : List Ch) (a c ta tc : Int) (w : World) (hl : l.length ≤ 900000) (hs : Sl w A (rc Ch.cells l)) :
    Calls Try.prog 30 #[.slice A l.length cap, unitV a c, unitV ta tc] w fun e w' => ElRes w.heap.size w' e (electR l a c ta tc) ∧ Below w.heap.size w w' := by
  unfold unitV
  have hB0 := since_alloc (since_alloc (Below.refl _ w) (.cells #[.int .i64 a, .int .i64 c] 44)) (.cells #[.int .i64 ta, .int .i64 tc] 44)
  have hU0 := (UAt.new w a c 44).below ((Below.refl _ _).alloc (Nat.le_refl _) (.cells #[.int .i64 ta, .int .i64 tc] 44))
  have hU1 := UAt.new (w.alloc (.cells #[.int .i64 a, .int .i64 c] 44)) ta tc 44
  rw [World.size_alloc] at hU1
  have HIS := Lib.hid (fun W h => eis_any A cap l W (by omega) h)
  have HSE := Lib.hid (fun W h (x : Ch) (hC : isC l = true) => show Calls Try.prog 52 #[.slice A l.length cap, x.val, .func (.func 48) #[] #[]] W (fun e w' => OwnC W.heap.size w' e (putR ahC l x) ∧ Below W.heap.size W w') from by
    have := put_ch A cap l x 48 #[] ahC W (by omega) h ent_ahead (tells_ahead _ _)
    rw [putL_eq] at this
    exact this)
  obtain ⟨q, hq⟩ : ∃ q, isC l = q := ⟨_, rfl⟩
  have HQ := Lib.hid hq
  have hs0 := (hs.alloc (.cells #[.int .i64 a, .int .i64 c] 44)).alloc (.cells #[.int .i64 ta, .int .i64 tc] 44)
  clear hs
  cases q with
  | false =>
    have HR : Hid (electR l a c ta tc = (3, [])) := Lib.hid (by rw [electR, if_pos hq])
    clear hq
    go_enter Try.func30, Try.ntmps30
    go_wp2_with fail
    refine (HIS.out _ hs0).mono ?_
    rintro e w1 ⟨rfl, hb1⟩
    have hB1 := since_step hB0 hb1
    rw [HQ.out]
    go_wp2_with fail
    go_ret2
    rw [HR.out]
    exact ⟨ElRes.nil _ _ _, hB1⟩
  | true =>
    by_cases hu : a = ta ∧ c = tc
    · have HR : Hid (electR l a c ta tc = (24, [])) := Lib.hid (by rw [electR, if_neg (by rw [hq]; decide), if_pos hu])
      obtain ⟨rfl, rfl⟩ := hu
      clear hq
      go_enter Try.func30, Try.ntmps30
      go_wp2_with fail
      refine (HIS.out _ hs0).mono ?_
      rintro e w1 ⟨rfl, hb1⟩
      have hB1 := since_step hB0 hb1
      obtain ⟨u0, u1, u2⟩ := hU0.below hb1
      obtain ⟨v0, v1, v2⟩ := hU1.below hb1
      clear hb1 hU0 hU1
      rw [HQ.out]
      go_wp2_with fail
      go_ret2
      rw [HR.out]
      exact ⟨ElRes.nil _ _ _, hB1⟩
    · have HR : Hid (electR l a c ta tc = (0, putR ahC l ⟨a, c, ta, tc, false⟩)) := Lib.hid (by rw [electR, if_neg (by rw [hq]; decide), if_neg hu])
      have HC := Lib.hid hq
      clear hq
      have hu2 : a ≠ ta ∨ (a = ta ∧ c ≠ tc) := by
        by_cases h1 : a = ta
        · exact .inr ⟨h1, fun h2 => hu ⟨h1, h2⟩⟩
        · exact .inl h1
      clear hu
      rcases hu2 with hu | ⟨rfl, hu⟩
      all_goals
        go_enter Try.func30, Try.ntmps30
        go_wp2_with fail
        refine (HIS.out _ hs0).mono ?_
        rintro e w1 ⟨rfl, hb1⟩
        have hB1 := since_step hB0 hb1
        have hs1 := hs0.below hb1
        obtain ⟨u0, u1, u2⟩ := hU0.below hb1
        obtain ⟨v0, v1, v2⟩ := hU1.below hb1
        clear hb1 hU0 hU1 hs0
        rw [HQ.out]
        go_wp2_with fail
        refine (HSE.out _ hs1 ⟨_, _, _, _, false⟩ HC.out).mono ?_
        rintro e w2 ⟨⟨A2, c2, rfl, hown⟩, hb2⟩
        have hB2 := since_step hB1 hb2
        have hown2 := own_base hown hB1.size
        clear hb2 hown hs1
        go_wp2_with fail
        go_ret2
        rw [HR.out]
        exact ⟨⟨A2, c2, rfl, hown2⟩, hB2⟩

set_option maxHeartbeats 4000000 in
theorem relect_any (A : Option Addr) (cap : Nat) (l : List Ch) (a c ta tc : Int) (w : World) (hl : l.length ≤ 900000) (hs : Sl w A (rc Ch.cells l)) :
    Calls Try.prog 31 #[.slice A l.length cap, unitV a c, unitV ta tc] w fun e w' => ElRes w.heap.size w' e (electR l a c ta tc) ∧ Below w.heap.size w w' := by
  unfold unitV
  have hB0 := since_alloc (since_alloc (Below.refl _ w) (.cells #[.int .i64 a, .int .i64 c] 44)) (.cells #[.int .i64 ta, .int .i64 tc] 44)
  have hU0 := (UAt.new w a c 44).below ((Below.refl _ _).alloc (Nat.le_refl _) (.cells #[.int .i64 ta, .int .i64 tc] 44))
  have hU1 := UAt.new (w.alloc (.cells #[.int .i64 a, .int .i64 c] 44)) ta tc 44
  rw [World.size_alloc] at hU1
  have HIS := Lib.hid (fun W h => ris_any A cap l W (by omega) h)
  have HSE := Lib.hid (fun W h (x : Ch) (hC : isC l = true) => show Calls Try.prog 53 #[.slice A l.length cap, x.val] W (fun e w' => OwnC W.heap.size w' e (putR ahC l x) ∧ Below W.heap.size W w') from by
    have := rset_any A cap l x W hl h
    rw [setL_eq hC] at this
    exact this)
  obtain ⟨q, hq⟩ : ∃ q, isC l = q := ⟨_, rfl⟩
  have HQ := Lib.hid hq
  have hs0 := (hs.alloc (.cells #[.int .i64 a, .int .i64 c] 44)).alloc (.cells #[.int .i64 ta, .int .i64 tc] 44)
  clear hs
  cases q with
  | false =>
    have HR : Hid (electR l a c ta tc = (3, [])) := Lib.hid (by rw [electR, if_pos hq])
    clear hq
    go_enter Try.func31, Try.ntmps31
    go_wp2_with fail
    refine (HIS.out _ hs0).mono ?_
    rintro e w1 ⟨rfl, hb1⟩
    have hB1 := since_step hB0 hb1
    rw [HQ.out]
    go_wp2_with fail
    go_ret2
    rw [HR.out]
    exact ⟨ElRes.nil _ _ _, hB1⟩
  | true =>
    by_cases hu : a = ta ∧ c = tc
    · have HR : Hid (electR l a c ta tc = (24, [])) := Lib.hid (by rw [electR, if_neg (by rw [hq]; decide), if_pos hu])
      obtain ⟨rfl, rfl⟩ := hu
      clear hq
      go_enter Try.func31, Try.ntmps31
      go_wp2_with fail
      refine (HIS.out _ hs0).mono ?_
      rintro e w1 ⟨rfl, hb1⟩
      have hB1 := since_step hB0 hb1
      obtain ⟨u0, u1, u2⟩ := hU0.below hb1
      obtain ⟨v0, v1, v2⟩ := hU1.below hb1
      clear hb1 hU0 hU1
      rw [HQ.out]
      go_wp2_with fail
      go_ret2
      rw [HR.out]
      exact ⟨ElRes.nil _ _ _, hB1⟩
    · have HR : Hid (electR l a c ta tc = (0, putR ahC l ⟨a, c, ta, tc, false⟩)) := Lib.hid (by rw [electR, if_neg (by rw [hq]; decide), if_neg hu])
      have HC := Lib.hid hq
      clear hq
      have hu2 : a ≠ ta ∨ (a = ta ∧ c ≠ tc) := by
        by_cases h1 : a = ta
        · exact .inr ⟨h1, fun h2 => hu ⟨h1, h2⟩⟩
        · exact .inl h1
      clear hu
      rcases hu2 with hu | ⟨rfl, hu⟩
      all_goals
        go_enter Try.func31, Try.ntmps31
        go_wp2_with fail
        refine (HIS.out _ hs0).mono ?_
        rintro e w1 ⟨rfl, hb1⟩
        have hB1 := since_step hB0 hb1
        have hs1 := hs0.below hb1
        obtain ⟨u0, u1, u2⟩ := hU0.below hb1
        obtain ⟨v0, v1, v2⟩ := hU1.below hb1
        clear hb1 hU0 hU1 hs0
        rw [HQ.out]
        go_wp2_with fail
        refine (HSE.out _ hs1 ⟨_, _, _, _, false⟩ HC.out).mono ?_
        rintro e w2 ⟨⟨A2, c2, rfl, hown⟩, hb2⟩
        have hB2 := since_step hB1 hb2
        have hown2 := own_base hown hB1.size
        clear hb2 hown hs1
        go_wp2_with fail
        go_ret2
        rw [HR.out]
        exact ⟨⟨A2, c2, rfl, hown2⟩, hB2⟩

set_option maxHeartbeats 4000000 in
set_option maxRecDepth 100000 in
theorem eagree_any (A : Option Addr) (cap : Nat) (l : List Ch) (a c ta tc : Int) (w : World) (hl : l.length ≤ 900000) (hs : Sl w A (rc Ch.cells l)) :
    Calls Try.prog 32 #[.slice A l.length cap, unitV a c, unitV ta tc] w fun e w' => ElRes w.heap.size w' e (agreeR l a c ta tc) ∧ Below w.heap.size w w' := by
  unfold unitV
  have hB0 := since_alloc (since_alloc (Below.refl _ w) (.cells #[.int .i64 a, .int .i64 c] 44)) (.cells #[.int .i64 ta, .int .i64 tc] 44)
  have hU0 := (UAt.new w a c 44).below ((Below.refl _ _).alloc (Nat.le_refl _) (.cells #[.int .i64 ta, .int .i64 tc] 44))
  have hU1 := UAt.new (w.alloc (.cells #[.int .i64 a, .int .i64 c] 44)) ta tc 44
  rw [World.size_alloc] at hU1
  have HIS := Lib.hid (fun W h => eis_any A cap l W (by omega) h)
  obtain ⟨q, hq⟩ : ∃ q, isC l = q := ⟨_, rfl⟩
  have HQ := Lib.hid hq
  have hs0 := (hs.alloc (.cells #[.int .i64 a, .int .i64 c] 44)).alloc (.cells #[.int .i64 ta, .int .i64 tc] 44)
  clear hs
  cases q with
  | false =>
    have HR : Hid (agreeR l a c ta tc = (3, [])) := Lib.hid (by rw [agreeR, if_pos hq])
    clear hq
    go_enter Try.func32, Try.ntmps32
    go_wp2_with fail
    refine (HIS.out _ hs0).mono ?_
    rintro e w1 ⟨rfl, hb1⟩
    have hB1 := since_step hB0 hb1
    rw [HQ.out]
    go_wp2_with fail
    go_ret2
    rw [HR.out]
    exact ⟨ElRes.nil _ _ _, hB1⟩
  | true =>
    have HC := Lib.hid hq
    rcases find_cases l a c with ⟨hh, hat⟩ | ⟨k, hk, hh, hat, hf, hof⟩
    · have HR : Hid (agreeR l a c ta tc = (19, [])) := Lib.hid (by rw [agreeR, if_neg (by rw [hq]; decide), if_pos hh])
      have HH := Lib.hid hh
      have HAT := Lib.hid hat
      clear hq hh hat
      go_enter Try.func32, Try.ntmps32
      go_wp2_with fail
      refine (HIS.out _ hs0).mono ?_
      rintro e w1 ⟨rfl, hb1⟩
      have hB1 := since_step hB0 hb1
      have hs1 := hs0.below hb1
      have hU01 := hU0.below hb1
      have hU11 := hU1.below hb1
      obtain ⟨u0, u1, u2⟩ := id hU01
      obtain ⟨v0, v1, v2⟩ := id hU11
      clear hb1 hU0 hU1 hs0
      rw [HQ.out]
      go_wp2_with fail
      refine (of_any a c _).mono ?_
      rintro e w2 ⟨⟨b, rfl, hU⟩, hb2⟩
      have hB2 := since_step hB1 hb2
      have hs2 := hs1.below hb2
      have hU12 := hU11.below hb2
      have hU02 := hU01.below hb2
      clear hb2 hs1 hU11 hU01 u0 u1 u2 v0 v1 v2
      go_wp2_with fail
      refine (index_ch A cap l 74 #[.pointer (some ⟨b, 0, none⟩)] (ofC a c) _ (by omega) hs2 ent_of1 (tells_of a c b _ hU)).mono ?_
      rintro e w3 ⟨rfl, hb3⟩
      have hB3 := since_step hB2 hb3
      have hs3 := hs2.below hb3
      have hU13 := hU12.below hb3
      have hU03 := hU02.below hb3
      clear hb3 hs2 hU12 hU02 hU
      rw [HAT.out]
      go_wp2_with fail
      go_ret2
      rw [HR.out]
      exact ⟨ElRes.nil _ _ _, hB3⟩
    · have hR : agreeR l a c ta tc = if l[k].ta = ta ∧ l[k].tc = tc then (0, putR ahC l ⟨a, c, ta, tc, true⟩) else (11, []) := by
        rw [agreeR, if_neg (by rw [hq]; decide), if_neg (by rw [hh]; decide), hf]
      have HH := Lib.hid hh
      have HAT := Lib.hid hat
      have HFD := Lib.hid hf
      have HOF := Lib.hid hof
      have hofc := (ofC_iff _ _ _).1 hof
      clear hq hh hat hf hof
      obtain ⟨va, hva⟩ : ∃ n, l[k].ta = n := ⟨_, rfl⟩
      obtain ⟨vc, hvc⟩ : ∃ n, l[k].tc = n := ⟨_, rfl⟩
      have HV : Hid (l[k].ta = va ∧ l[k].tc = vc) := Lib.hid ⟨hva, hvc⟩
      rw [hva, hvc] at hR
      clear hva hvc
      by_cases h1 : va = ta
      · subst h1
        by_cases h2 : vc = tc
        · subst h2
          have HR := Lib.hid (show agreeR l a c va vc = (0, putR ahC l ⟨a, c, va, vc, true⟩) by rw [hR, if_pos ⟨rfl, rfl⟩])
          clear hR
          have HST : Hid (l.set k ⟨a, c, va, vc, true⟩ = putR ahC l ⟨a, c, va, vc, true⟩) := Lib.hid (agree_set HC.out hk ⟨a, c, va, vc, true⟩ HOF.out)
          go_enter Try.func32, Try.ntmps32
          go_wp2_with fail
          refine (HIS.out _ hs0).mono ?_
          rintro e w1 ⟨rfl, hb1⟩
          have hB1 := since_step hB0 hb1
          have hs1 := hs0.below hb1
          have hU01 := hU0.below hb1
          have hU11 := hU1.below hb1
          obtain ⟨u0, u1, u2⟩ := id hU01
          obtain ⟨v0, v1, v2⟩ := id hU11
          clear hb1 hU0 hU1 hs0
          rw [HQ.out]
          go_wp2_with fail
          refine (of_any a c _).mono ?_
          rintro e w2 ⟨⟨b, rfl, hU⟩, hb2⟩
          have hB2 := since_step hB1 hb2
          have hs2 := hs1.below hb2
          have hU12 := hU11.below hb2
          have hU02 := hU01.below hb2
          clear hb2 hs1 hU11 hU01 u0 u1 u2 v0 v1 v2
          go_wp2_with fail
          refine (index_ch A cap l 74 #[.pointer (some ⟨b, 0, none⟩)] (ofC a c) _ (by omega) hs2 ent_of1 (tells_of a c b _ hU)).mono ?_
          rintro e w3 ⟨rfl, hb3⟩
          have hB3 := since_step hB2 hb3
          have hs3 := hs2.below hb3
          have hU13 := hU12.below hb3
          have hU03 := hU02.below hb3
          clear hb3 hs2 hU12 hU02 hU
          rw [HAT.out]
          obtain ⟨bb, oo, rfl, hbw, hg⟩ := hs3.ch hk
          have HK1 : Hid (∀ V, Below w3.heap.size w3 V → l[k].at V bb (oo + k * 5)) := Lib.hid fun V hV => Ch.at_keep hg fun i => hV.cell (p := ⟨bb, i, none⟩) hbw
          have HU0 : Hid (∀ V, Below w3.heap.size w3 V → UAt V w.heap.size a c) := Lib.hid fun V hV => hU03.below hV
          have HU1 : Hid (∀ V, Below w3.heap.size w3 V → UAt V (w.heap.size + 1) va vc) := Lib.hid fun V hV => hU13.below hV
          have hlk : (k : Int) < (l.length : Int) := by omega
          have hk0 : ¬ ((k : Int) < 0) := by omega
          clear hg hbw
          have HK2 := HK1
          clear HK1
          obtain ⟨v, hv⟩ : ∃ v, l[k] = v := ⟨_, rfl⟩
          rw [hv] at HK2
          have hV := HV.out
          rw [hv] at hV
          clear hv hofc
          obtain ⟨fa, fc, xa, xc, con⟩ := v
          obtain ⟨h11, h12⟩ := hV
          obtain rfl : va = xa := h11.symm
          obtain rfl : vc = xc := h12.symm
          have HK1 := HK2
          clear HK2
          unfold Ch.at at HK1
          simp only at HK1
          clear hU03 hU13
          go_wp2_with fail
          refine wp_region_held_drew (S := (fun V => Below w3.heap.size w3 V)) (by kernel_rfl) (by exact (Below.refl _ _).drew) (fun hHeld => ?_)
          refine wpAnyH_take (i := 0) (oi := { dst := some 18, op := _, type := _, pos := _, after := _, guard := _ }) (v := ?_) rfl (by kernel_rfl) (by kernel_rfl) (by kernel_rfl) (fun _ _ _ h => h) (Or.inl ⟨by rfl, ?_⟩) hHeld ?_
          rotate_left
          · (intro w hSw; obtain ⟨g0, g1, g2, g3, g4⟩ := HK1.out _ hSw; obtain ⟨u0, u1, u2⟩ := HU0.out _ hSw; obtain ⟨v0, v1, v2⟩ := HU1.out _ hSw; go_simp <;> with_reducible rfl)
          try simp only [Act.put, List.setIfInBounds_toArray, List.set_cons_zero, List.set_cons_succ]
          refine wpAnyH_take (i := 1) (oi := { dst := some 19, op := _, type := _, pos := _, after := _, guard := _ }) (v := ?_) rfl (by kernel_rfl) (by kernel_rfl) (by kernel_rfl) (fun _ _ _ h => h) (Or.inl ⟨by rfl, ?_⟩) hHeld ?_
          rotate_left
          · (intro w hSw; obtain ⟨g0, g1, g2, g3, g4⟩ := HK1.out _ hSw; obtain ⟨u0, u1, u2⟩ := HU0.out _ hSw; obtain ⟨v0, v1, v2⟩ := HU1.out _ hSw; go_simp <;> with_reducible rfl)
          try simp only [Act.put, List.setIfInBounds_toArray, List.set_cons_zero, List.set_cons_succ]
          refine wpAnyH_take (i := 2) (oi := { dst := some 20, op := _, type := _, pos := _, after := _, guard := _ }) (v := ?_) rfl (by kernel_rfl) (by kernel_rfl) (by kernel_rfl) (fun _ _ _ h => h) (Or.inl ⟨by rfl, ?_⟩) hHeld ?_
          rotate_left
          · (intro w hSw; obtain ⟨g0, g1, g2, g3, g4⟩ := HK1.out _ hSw; obtain ⟨u0, u1, u2⟩ := HU0.out _ hSw; obtain ⟨v0, v1, v2⟩ := HU1.out _ hSw; go_simp <;> with_reducible rfl)
          try simp only [Act.put, List.setIfInBounds_toArray, List.set_cons_zero, List.set_cons_succ]
          refine wpAnyH_take (i := 3) (oi := { dst := some 21, op := _, type := _, pos := _, after := _, guard := _ }) (v := ?_) rfl (by kernel_rfl) (by kernel_rfl) (by kernel_rfl) (fun _ _ _ h => h) (Or.inl ⟨by rfl, ?_⟩) hHeld ?_
          rotate_left
          · (intro w hSw; obtain ⟨g0, g1, g2, g3, g4⟩ := HK1.out _ hSw; obtain ⟨u0, u1, u2⟩ := HU0.out _ hSw; obtain ⟨v0, v1, v2⟩ := HU1.out _ hSw; go_simp <;> with_reducible rfl)
          try simp only [Act.put, List.setIfInBounds_toArray, List.set_cons_zero, List.set_cons_succ]
          refine wpAnyH_take (i := 4) (oi := { dst := some 22, op := _, type := _, pos := _, after := _, guard := _ }) (v := ?_) rfl (by kernel_rfl) (by kernel_rfl) (by kernel_rfl) (fun _ _ _ h => h) (Or.inl ⟨by rfl, ?_⟩) hHeld ?_
          rotate_left
          · (intro w hSw; obtain ⟨g0, g1, g2, g3, g4⟩ := HK1.out _ hSw; obtain ⟨u0, u1, u2⟩ := HU0.out _ hSw; obtain ⟨v0, v1, v2⟩ := HU1.out _ hSw; go_simp <;> with_reducible rfl)
          try simp only [Act.put, List.setIfInBounds_toArray, List.set_cons_zero, List.set_cons_succ]
          refine wpAnyH_take (i := 5) (oi := { dst := some 23, op := _, type := _, pos := _, after := _, guard := _ }) (v := ?_) rfl (by kernel_rfl) (by kernel_rfl) (by kernel_rfl) (fun _ _ _ h => h) (Or.inl ⟨by rfl, ?_⟩) hHeld ?_
          rotate_left
          · (intro w hSw; obtain ⟨g0, g1, g2, g3, g4⟩ := HK1.out _ hSw; obtain ⟨u0, u1, u2⟩ := HU0.out _ hSw; obtain ⟨v0, v1, v2⟩ := HU1.out _ hSw; go_simp <;> with_reducible rfl)
          try simp only [Act.put, List.setIfInBounds_toArray, List.set_cons_zero, List.set_cons_succ]
          refine wpAnyH_take (i := 6) (oi := { dst := some 24, op := _, type := _, pos := _, after := _, guard := _ }) (v := ?_) rfl (by kernel_rfl) (by kernel_rfl) (by kernel_rfl) (fun _ _ _ h => h) (Or.inl ⟨by rfl, ?_⟩) hHeld ?_
          rotate_left
          · (intro w hSw; obtain ⟨g0, g1, g2, g3, g4⟩ := HK1.out _ hSw; obtain ⟨u0, u1, u2⟩ := HU0.out _ hSw; obtain ⟨v0, v1, v2⟩ := HU1.out _ hSw; go_simp <;> with_reducible rfl)
          try simp only [Act.put, List.setIfInBounds_toArray, List.set_cons_zero, List.set_cons_succ]
          refine wpAnyH_done (by kernel_rfl) ?_ _
          have hB4 := hB3.trans (hHeld.mono hB3.size)
          obtain ⟨u0, u1, u2⟩ := HU0.out _ hHeld
          obtain ⟨v0, v1, v2⟩ := HU1.out _ hHeld
          go_wp2_with fail
          refine (set_ch (some ⟨bb, oo, none⟩) cap l k ⟨a, c, va, vc, true⟩ _ (by omega) hk (hs3.below hHeld)).mono ?_
          rintro e w4 ⟨⟨A4, c4, rfl, hown⟩, hb4⟩
          have hB5 := since_step hB4 hb4
          have hown2 := own_base hown hB4.size
          go_wp2_with fail
          go_ret2
          rw [HR.out, ← HST.out]
          refine ⟨⟨A4, c4, ?_, ?_⟩, hB5⟩
          · simp only [List.length_set]; rfl
          · simp only [List.length_set]; exact hown2
        · have HR := Lib.hid (show agreeR l a c va tc = (11, []) by rw [hR, if_neg (fun h => h2 h.2)])
          clear hR
          go_enter Try.func32, Try.ntmps32
          go_wp2_with fail
          refine (HIS.out _ hs0).mono ?_
          rintro e w1 ⟨rfl, hb1⟩
          have hB1 := since_step hB0 hb1
          have hs1 := hs0.below hb1
          have hU01 := hU0.below hb1
          have hU11 := hU1.below hb1
          obtain ⟨u0, u1, u2⟩ := id hU01
          obtain ⟨v0, v1, v2⟩ := id hU11
          clear hb1 hU0 hU1 hs0
          rw [HQ.out]
          go_wp2_with fail
          refine (of_any a c _).mono ?_
          rintro e w2 ⟨⟨b, rfl, hU⟩, hb2⟩
          have hB2 := since_step hB1 hb2
          have hs2 := hs1.below hb2
          have hU12 := hU11.below hb2
          have hU02 := hU01.below hb2
          clear hb2 hs1 hU11 hU01 u0 u1 u2 v0 v1 v2
          go_wp2_with fail
          refine (index_ch A cap l 74 #[.pointer (some ⟨b, 0, none⟩)] (ofC a c) _ (by omega) hs2 ent_of1 (tells_of a c b _ hU)).mono ?_
          rintro e w3 ⟨rfl, hb3⟩
          have hB3 := since_step hB2 hb3
          have hs3 := hs2.below hb3
          have hU13 := hU12.below hb3
          have hU03 := hU02.below hb3
          clear hb3 hs2 hU12 hU02 hU
          rw [HAT.out]
          obtain ⟨bb, oo, rfl, hbw, hg⟩ := hs3.ch hk
          have HK1 : Hid (∀ V, Below w3.heap.size w3 V → l[k].at V bb (oo + k * 5)) := Lib.hid fun V hV => Ch.at_keep hg fun i => hV.cell (p := ⟨bb, i, none⟩) hbw
          have HU0 : Hid (∀ V, Below w3.heap.size w3 V → UAt V w.heap.size a c) := Lib.hid fun V hV => hU03.below hV
          have HU1 : Hid (∀ V, Below w3.heap.size w3 V → UAt V (w.heap.size + 1) va tc) := Lib.hid fun V hV => hU13.below hV
          have hlk : (k : Int) < (l.length : Int) := by omega
          have hk0 : ¬ ((k : Int) < 0) := by omega
          clear hg hbw
          have HK2 := HK1
          clear HK1
          obtain ⟨v, hv⟩ : ∃ v, l[k] = v := ⟨_, rfl⟩
          rw [hv] at HK2
          have hV := HV.out
          rw [hv] at hV
          clear hv hofc
          obtain ⟨fa, fc, xa, xc, con⟩ := v
          obtain ⟨h11, h12⟩ := hV
          obtain rfl : va = xa := h11.symm
          obtain rfl : vc = xc := h12.symm
          have HK1 := HK2
          clear HK2
          unfold Ch.at at HK1
          simp only at HK1
          clear hU03 hU13
          go_wp2_with fail
          refine wp_region_held_drew (S := (fun V => Below w3.heap.size w3 V)) (by kernel_rfl) (by exact (Below.refl _ _).drew) (fun hHeld => ?_)
          refine wpAnyH_take (i := 0) (oi := { dst := some 18, op := _, type := _, pos := _, after := _, guard := _ }) (v := ?_) rfl (by kernel_rfl) (by kernel_rfl) (by kernel_rfl) (fun _ _ _ h => h) (Or.inl ⟨by rfl, ?_⟩) hHeld ?_
          rotate_left
          · (intro w hSw; obtain ⟨g0, g1, g2, g3, g4⟩ := HK1.out _ hSw; obtain ⟨u0, u1, u2⟩ := HU0.out _ hSw; obtain ⟨v0, v1, v2⟩ := HU1.out _ hSw; go_simp <;> with_reducible rfl)
          try simp only [Act.put, List.setIfInBounds_toArray, List.set_cons_zero, List.set_cons_succ]
          refine wpAnyH_take (i := 1) (oi := { dst := some 19, op := _, type := _, pos := _, after := _, guard := _ }) (v := ?_) rfl (by kernel_rfl) (by kernel_rfl) (by kernel_rfl) (fun _ _ _ h => h) (Or.inl ⟨by rfl, ?_⟩) hHeld ?_
          rotate_left
          · (intro w hSw; obtain ⟨g0, g1, g2, g3, g4⟩ := HK1.out _ hSw; obtain ⟨u0, u1, u2⟩ := HU0.out _ hSw; obtain ⟨v0, v1, v2⟩ := HU1.out _ hSw; go_simp <;> with_reducible rfl)
          try simp only [Act.put, List.setIfInBounds_toArray, List.set_cons_zero, List.set_cons_succ]
          refine wpAnyH_take (i := 2) (oi := { dst := some 20, op := _, type := _, pos := _, after := _, guard := _ }) (v := ?_) rfl (by kernel_rfl) (by kernel_rfl) (by kernel_rfl) (fun _ _ _ h => h) (Or.inl ⟨by rfl, ?_⟩) hHeld ?_
          rotate_left
          · (intro w hSw; obtain ⟨g0, g1, g2, g3, g4⟩ := HK1.out _ hSw; obtain ⟨u0, u1, u2⟩ := HU0.out _ hSw; obtain ⟨v0, v1, v2⟩ := HU1.out _ hSw; go_simp <;> with_reducible rfl)
          try simp only [Act.put, List.setIfInBounds_toArray, List.set_cons_zero, List.set_cons_succ]
          refine wpAnyH_take (i := 3) (oi := { dst := some 21, op := _, type := _, pos := _, after := _, guard := _ }) (v := ?_) rfl (by kernel_rfl) (by kernel_rfl) (by kernel_rfl) (fun _ _ _ h => h) (Or.inl ⟨by rfl, ?_⟩) hHeld ?_
          rotate_left
          · (intro w hSw; obtain ⟨g0, g1, g2, g3, g4⟩ := HK1.out _ hSw; obtain ⟨u0, u1, u2⟩ := HU0.out _ hSw; obtain ⟨v0, v1, v2⟩ := HU1.out _ hSw; go_simp <;> with_reducible rfl)
          try simp only [Act.put, List.setIfInBounds_toArray, List.set_cons_zero, List.set_cons_succ]
          refine wpAnyH_take (i := 4) (oi := { dst := some 22, op := _, type := _, pos := _, after := _, guard := _ }) (v := ?_) rfl (by kernel_rfl) (by kernel_rfl) (by kernel_rfl) (fun _ _ _ h => h) (Or.inl ⟨by rfl, ?_⟩) hHeld ?_
          rotate_left
          · (intro w hSw; obtain ⟨g0, g1, g2, g3, g4⟩ := HK1.out _ hSw; obtain ⟨u0, u1, u2⟩ := HU0.out _ hSw; obtain ⟨v0, v1, v2⟩ := HU1.out _ hSw; go_simp <;> with_reducible rfl)
          try simp only [Act.put, List.setIfInBounds_toArray, List.set_cons_zero, List.set_cons_succ]
          refine wpAnyH_take (i := 5) (oi := { dst := some 23, op := _, type := _, pos := _, after := _, guard := _ }) (v := ?_) rfl (by kernel_rfl) (by kernel_rfl) (by kernel_rfl) (fun _ _ _ h => h) (Or.inl ⟨by rfl, ?_⟩) hHeld ?_
          rotate_left
          · (intro w hSw; obtain ⟨g0, g1, g2, g3, g4⟩ := HK1.out _ hSw; obtain ⟨u0, u1, u2⟩ := HU0.out _ hSw; obtain ⟨v0, v1, v2⟩ := HU1.out _ hSw; go_simp <;> with_reducible rfl)
          try simp only [Act.put, List.setIfInBounds_toArray, List.set_cons_zero, List.set_cons_succ]
          refine wpAnyH_take (i := 6) (oi := { dst := some 24, op := _, type := _, pos := _, after := _, guard := _ }) (v := ?_) rfl (by kernel_rfl) (by kernel_rfl) (by kernel_rfl) (fun _ _ _ h => h) (Or.inl ⟨by rfl, ?_⟩) hHeld ?_
          rotate_left
          · (intro w hSw; obtain ⟨g0, g1, g2, g3, g4⟩ := HK1.out _ hSw; obtain ⟨u0, u1, u2⟩ := HU0.out _ hSw; obtain ⟨v0, v1, v2⟩ := HU1.out _ hSw; go_simp <;> with_reducible rfl)
          try simp only [Act.put, List.setIfInBounds_toArray, List.set_cons_zero, List.set_cons_succ]
          refine wpAnyH_done (by kernel_rfl) ?_ _
          have hB4 := hB3.trans (hHeld.mono hB3.size)
          go_wp2_with fail
          go_ret2
          rw [HR.out]
          exact ⟨ElRes.nil _ _ _, hB4⟩
      · have HR := Lib.hid (show agreeR l a c ta tc = (11, []) by rw [hR, if_neg (fun h => h1 h.1)])
        clear hR
        go_enter Try.func32, Try.ntmps32
        go_wp2_with fail
        refine (HIS.out _ hs0).mono ?_
        rintro e w1 ⟨rfl, hb1⟩
        have hB1 := since_step hB0 hb1
        have hs1 := hs0.below hb1
        have hU01 := hU0.below hb1
        have hU11 := hU1.below hb1
        obtain ⟨u0, u1, u2⟩ := id hU01
        obtain ⟨v0, v1, v2⟩ := id hU11
        clear hb1 hU0 hU1 hs0
        rw [HQ.out]
        go_wp2_with fail
        refine (of_any a c _).mono ?_
        rintro e w2 ⟨⟨b, rfl, hU⟩, hb2⟩
        have hB2 := since_step hB1 hb2
        have hs2 := hs1.below hb2
        have hU12 := hU11.below hb2
        have hU02 := hU01.below hb2
        clear hb2 hs1 hU11 hU01 u0 u1 u2 v0 v1 v2
        go_wp2_with fail
        refine (index_ch A cap l 74 #[.pointer (some ⟨b, 0, none⟩)] (ofC a c) _ (by omega) hs2 ent_of1 (tells_of a c b _ hU)).mono ?_
        rintro e w3 ⟨rfl, hb3⟩
        have hB3 := since_step hB2 hb3
        have hs3 := hs2.below hb3
        have hU13 := hU12.below hb3
        have hU03 := hU02.below hb3
        clear hb3 hs2 hU12 hU02 hU
        rw [HAT.out]
        obtain ⟨bb, oo, rfl, hbw, hg⟩ := hs3.ch hk
        have HK1 : Hid (∀ V, Below w3.heap.size w3 V → l[k].at V bb (oo + k * 5)) := Lib.hid fun V hV => Ch.at_keep hg fun i => hV.cell (p := ⟨bb, i, none⟩) hbw
        have HU0 : Hid (∀ V, Below w3.heap.size w3 V → UAt V w.heap.size a c) := Lib.hid fun V hV => hU03.below hV
        have HU1 : Hid (∀ V, Below w3.heap.size w3 V → UAt V (w.heap.size + 1) ta tc) := Lib.hid fun V hV => hU13.below hV
        have hlk : (k : Int) < (l.length : Int) := by omega
        have hk0 : ¬ ((k : Int) < 0) := by omega
        clear hg hbw
        have HK2 := HK1
        clear HK1
        obtain ⟨v, hv⟩ : ∃ v, l[k] = v := ⟨_, rfl⟩
        rw [hv] at HK2
        have hV := HV.out
        rw [hv] at hV
        clear hv hofc
        obtain ⟨fa, fc, xa, xc, con⟩ := v
        obtain ⟨h11, h12⟩ := hV
        obtain rfl : va = xa := h11.symm
        obtain rfl : vc = xc := h12.symm
        have HK1 := HK2
        clear HK2
        unfold Ch.at at HK1
        simp only at HK1
        clear hU03 hU13
        go_wp2_with fail
        refine wp_region_held_drew (S := (fun V => Below w3.heap.size w3 V)) (by kernel_rfl) (by exact (Below.refl _ _).drew) (fun hHeld => ?_)
        refine wpAnyH_take (i := 0) (oi := { dst := some 18, op := _, type := _, pos := _, after := _, guard := _ }) (v := ?_) rfl (by kernel_rfl) (by kernel_rfl) (by kernel_rfl) (fun _ _ _ h => h) (Or.inl ⟨by rfl, ?_⟩) hHeld ?_
        rotate_left
        · (intro w hSw; obtain ⟨g0, g1, g2, g3, g4⟩ := HK1.out _ hSw; obtain ⟨u0, u1, u2⟩ := HU0.out _ hSw; obtain ⟨v0, v1, v2⟩ := HU1.out _ hSw; go_simp <;> with_reducible rfl)
        try simp only [Act.put, List.setIfInBounds_toArray, List.set_cons_zero, List.set_cons_succ]
        refine wpAnyH_take (i := 1) (oi := { dst := some 19, op := _, type := _, pos := _, after := _, guard := _ }) (v := ?_) rfl (by kernel_rfl) (by kernel_rfl) (by kernel_rfl) (fun _ _ _ h => h) (Or.inl ⟨by rfl, ?_⟩) hHeld ?_
        rotate_left
        · (intro w hSw; obtain ⟨g0, g1, g2, g3, g4⟩ := HK1.out _ hSw; obtain ⟨u0, u1, u2⟩ := HU0.out _ hSw; obtain ⟨v0, v1, v2⟩ := HU1.out _ hSw; go_simp <;> with_reducible rfl)
        try simp only [Act.put, List.setIfInBounds_toArray, List.set_cons_zero, List.set_cons_succ]
        refine wpAnyH_take (i := 2) (oi := { dst := some 20, op := _, type := _, pos := _, after := _, guard := _ }) (v := ?_) rfl (by kernel_rfl) (by kernel_rfl) (by kernel_rfl) (fun _ _ _ h => h) (Or.inl ⟨by rfl, ?_⟩) hHeld ?_
        rotate_left
        · (intro w hSw; obtain ⟨g0, g1, g2, g3, g4⟩ := HK1.out _ hSw; obtain ⟨u0, u1, u2⟩ := HU0.out _ hSw; obtain ⟨v0, v1, v2⟩ := HU1.out _ hSw; go_simp <;> with_reducible rfl)
        try simp only [Act.put, List.setIfInBounds_toArray, List.set_cons_zero, List.set_cons_succ]
        refine wpAnyH_take (i := 3) (oi := { dst := some 21, op := _, type := _, pos := _, after := _, guard := _ }) (v := ?_) rfl (by kernel_rfl) (by kernel_rfl) (by kernel_rfl) (fun _ _ _ h => h) (Or.inl ⟨by rfl, ?_⟩) hHeld ?_
        rotate_left
        · (intro w hSw; obtain ⟨g0, g1, g2, g3, g4⟩ := HK1.out _ hSw; obtain ⟨u0, u1, u2⟩ := HU0.out _ hSw; obtain ⟨v0, v1, v2⟩ := HU1.out _ hSw; go_simp <;> with_reducible rfl)
        try simp only [Act.put, List.setIfInBounds_toArray, List.set_cons_zero, List.set_cons_succ]
        refine wpAnyH_take (i := 4) (oi := { dst := some 22, op := _, type := _, pos := _, after := _, guard := _ }) (v := ?_) rfl (by kernel_rfl) (by kernel_rfl) (by kernel_rfl) (fun _ _ _ h => h) (Or.inl ⟨by rfl, ?_⟩) hHeld ?_
        rotate_left
        · (intro w hSw; obtain ⟨g0, g1, g2, g3, g4⟩ := HK1.out _ hSw; obtain ⟨u0, u1, u2⟩ := HU0.out _ hSw; obtain ⟨v0, v1, v2⟩ := HU1.out _ hSw; go_simp <;> with_reducible rfl)
        try simp only [Act.put, List.setIfInBounds_toArray, List.set_cons_zero, List.set_cons_succ]
        refine wpAnyH_take (i := 5) (oi := { dst := some 23, op := _, type := _, pos := _, after := _, guard := _ }) (v := ?_) rfl (by kernel_rfl) (by kernel_rfl) (by kernel_rfl) (fun _ _ _ h => h) (Or.inl ⟨by rfl, ?_⟩) hHeld ?_
        rotate_left
        · (intro w hSw; obtain ⟨g0, g1, g2, g3, g4⟩ := HK1.out _ hSw; obtain ⟨u0, u1, u2⟩ := HU0.out _ hSw; obtain ⟨v0, v1, v2⟩ := HU1.out _ hSw; go_simp <;> with_reducible rfl)
        try simp only [Act.put, List.setIfInBounds_toArray, List.set_cons_zero, List.set_cons_succ]
        refine wpAnyH_take (i := 6) (oi := { dst := some 24, op := _, type := _, pos := _, after := _, guard := _ }) (v := ?_) rfl (by kernel_rfl) (by kernel_rfl) (by kernel_rfl) (fun _ _ _ h => h) (Or.inl ⟨by rfl, ?_⟩) hHeld ?_
        rotate_left
        · (intro w hSw; obtain ⟨g0, g1, g2, g3, g4⟩ := HK1.out _ hSw; obtain ⟨u0, u1, u2⟩ := HU0.out _ hSw; obtain ⟨v0, v1, v2⟩ := HU1.out _ hSw; go_simp <;> with_reducible rfl)
        try simp only [Act.put, List.setIfInBounds_toArray, List.set_cons_zero, List.set_cons_succ]
        refine wpAnyH_done (by kernel_rfl) ?_ _
        have hB4 := hB3.trans (hHeld.mono hB3.size)
        go_wp2_with fail
        go_ret2
        rw [HR.out]
        exact ⟨ElRes.nil _ _ _, hB4⟩

set_option maxHeartbeats 4000000 in
set_option maxRecDepth 100000 in
theorem ragree_any (A : Option Addr) (cap : Nat) (l : List Ch) (a c ta tc : Int) (w : World) (hl : l.length ≤ 900000) (hs : Sl w A (rc Ch.cells l)) :
    Calls Try.prog 33 #[.slice A l.length cap, unitV a c, unitV ta tc] w fun e w' => ElRes w.heap.size w' e (agreeR l a c ta tc) ∧ Below w.heap.size w w' := by
  unfold unitV
  have hB0 := since_alloc (since_alloc (Below.refl _ w) (.cells #[.int .i64 a, .int .i64 c] 44)) (.cells #[.int .i64 ta, .int .i64 tc] 44)
  have hU0 := (UAt.new w a c 44).below ((Below.refl _ _).alloc (Nat.le_refl _) (.cells #[.int .i64 ta, .int .i64 tc] 44))
  have hU1 := UAt.new (w.alloc (.cells #[.int .i64 a, .int .i64 c] 44)) ta tc 44
  rw [World.size_alloc] at hU1
  have HIS := Lib.hid (fun W h => ris_any A cap l W (by omega) h)
  have HSE := Lib.hid (fun W h (x : Ch) (hC : isC l = true) => show Calls Try.prog 53 #[.slice A l.length cap, x.val] W (fun e w' => OwnC W.heap.size w' e (putR ahC l x) ∧ Below W.heap.size W w') from by
    have := rset_any A cap l x W hl h
    rw [setL_eq hC] at this
    exact this)
  obtain ⟨q, hq⟩ : ∃ q, isC l = q := ⟨_, rfl⟩
  have HQ := Lib.hid hq
  have hs0 := (hs.alloc (.cells #[.int .i64 a, .int .i64 c] 44)).alloc (.cells #[.int .i64 ta, .int .i64 tc] 44)
  clear hs
  cases q with
  | false =>
    have HR : Hid (agreeR l a c ta tc = (3, [])) := Lib.hid (by rw [agreeR, if_pos hq])
    clear hq
    go_enter Try.func33, Try.ntmps33
    go_wp2_with fail
    refine (HIS.out _ hs0).mono ?_
    rintro e w1 ⟨rfl, hb1⟩
    have hB1 := since_step hB0 hb1
    rw [HQ.out]
    go_wp2_with fail
    go_ret2
    rw [HR.out]
    exact ⟨ElRes.nil _ _ _, hB1⟩
  | true =>
    have HC := Lib.hid hq
    rcases find_cases l a c with ⟨hh, hat⟩ | ⟨k, hk, hh, hat, hf, hof⟩
    · have HR : Hid (agreeR l a c ta tc = (19, [])) := Lib.hid (by rw [agreeR, if_neg (by rw [hq]; decide), if_pos hh])
      have HH := Lib.hid hh
      have HAT := Lib.hid hat
      clear hq hh hat
      go_enter Try.func33, Try.ntmps33
      go_wp2_with fail
      refine (HIS.out _ hs0).mono ?_
      rintro e w1 ⟨rfl, hb1⟩
      have hB1 := since_step hB0 hb1
      have hs1 := hs0.below hb1
      have hU01 := hU0.below hb1
      have hU11 := hU1.below hb1
      obtain ⟨u0, u1, u2⟩ := id hU01
      obtain ⟨v0, v1, v2⟩ := id hU11
      clear hb1 hU0 hU1 hs0
      rw [HQ.out]
      go_wp2_with fail
      refine (rfind_any A cap l a c _ (by omega) hs1).mono ?_
      rintro e w2 ⟨rfl, hb2⟩
      have hB2 := since_step hB1 hb2
      have hs2 := hs1.below hb2
      obtain ⟨lu1, v1', v2'⟩ := hU11.below hb2
      obtain ⟨lu0, u1', u2'⟩ := hU01.below hb2
      have hcs := @cell_set
      clear hb2 hs1 hU11 hU01 u0 u1 u2 v0 v1 v2
      rw [HH.out]
      generalize findC l a c = v
      unfold Ch.val
      go_wp2_with fail
      go_ret2
      rw [HR.out]
      refine ⟨ElRes.nil _ _ _, ?_⟩
      repeat' (first | with_reducible exact hB2 | with_reducible refine Below.drew ?_ | with_reducible refine Below.setCell ?_ ?_ _ | with_reducible refine Below.alloc ?_ ?_ _)
      all_goals (have h9 := hB2.size; first | omega | (simp; done) | (simp; omega))
    · have hR : agreeR l a c ta tc = if l[k].ta = ta ∧ l[k].tc = tc then (0, putR ahC l ⟨a, c, ta, tc, true⟩) else (11, []) := by
        rw [agreeR, if_neg (by rw [hq]; decide), if_neg (by rw [hh]; decide), hf]
      have HH := Lib.hid hh
      have HAT := Lib.hid hat
      have HFD := Lib.hid hf
      have HOF := Lib.hid hof
      have hofc := (ofC_iff _ _ _).1 hof
      clear hq hh hat hf hof
      obtain ⟨va, hva⟩ : ∃ n, l[k].ta = n := ⟨_, rfl⟩
      obtain ⟨vc, hvc⟩ : ∃ n, l[k].tc = n := ⟨_, rfl⟩
      have HV : Hid (l[k].ta = va ∧ l[k].tc = vc) := Lib.hid ⟨hva, hvc⟩
      rw [hva, hvc] at hR
      clear hva hvc
      by_cases h1 : va = ta
      · subst h1
        by_cases h2 : vc = tc
        · subst h2
          have HR := Lib.hid (show agreeR l a c va vc = (0, putR ahC l ⟨a, c, va, vc, true⟩) by rw [hR, if_pos ⟨rfl, rfl⟩])
          clear hR
          go_enter Try.func33, Try.ntmps33
          go_wp2_with fail
          refine (HIS.out _ hs0).mono ?_
          rintro e w1 ⟨rfl, hb1⟩
          have hB1 := since_step hB0 hb1
          have hs1 := hs0.below hb1
          have hU01 := hU0.below hb1
          have hU11 := hU1.below hb1
          obtain ⟨u0, u1, u2⟩ := id hU01
          obtain ⟨v0, v1, v2⟩ := id hU11
          clear hb1 hU0 hU1 hs0
          rw [HQ.out]
          go_wp2_with fail
          refine (rfind_any A cap l a c _ (by omega) hs1).mono ?_
          rintro e w2 ⟨rfl, hb2⟩
          have hB2 := since_step hB1 hb2
          have hs2 := hs1.below hb2
          obtain ⟨lu1, v1', v2'⟩ := hU11.below hb2
          obtain ⟨lu0, u1', u2'⟩ := hU01.below hb2
          have hcs := @cell_set
          clear hb2 hs1 hU11 hU01 u0 u1 u2 v0 v1 v2
          rw [HH.out, HFD.out]
          obtain ⟨v, hv⟩ : ∃ v, l[k] = v := ⟨_, rfl⟩
          rw [hv]
          have hV := HV.out
          rw [hv] at hV hofc
          clear hv
          obtain ⟨fa, fc, xa, xc, con⟩ := v
          obtain ⟨h11, h12⟩ := hV
          obtain rfl : va = xa := h11.symm
          obtain rfl : vc = xc := h12.symm
          obtain ⟨h13, h14⟩ := hofc
          obtain rfl : a = fa := h13.symm
          obtain rfl : c = fc := h14.symm
          unfold Ch.val
          go_wp2_with fail
          have hBa := since_alloc hB2 (.cells #[.int .i64 a, .int .i64 c, .int .i64 va, .int .i64 vc, .bool true] 54)
          refine (HSE.out _ (hs2.alloc _) ⟨a, c, va, vc, true⟩ HC.out).mono ?_
          rintro e w4 ⟨⟨A4, c4, rfl, hown⟩, hb4⟩
          have hB4 := since_step hBa hb4
          have hown2 := own_base hown hBa.size
          go_wp2_with fail
          go_ret2
          rw [HR.out]
          exact ⟨⟨A4, c4, rfl, hown2⟩, hB4⟩
        · have HR := Lib.hid (show agreeR l a c va tc = (11, []) by rw [hR, if_neg (fun h => h2 h.2)])
          clear hR
          go_enter Try.func33, Try.ntmps33
          go_wp2_with fail
          refine (HIS.out _ hs0).mono ?_
          rintro e w1 ⟨rfl, hb1⟩
          have hB1 := since_step hB0 hb1
          have hs1 := hs0.below hb1
          have hU01 := hU0.below hb1
          have hU11 := hU1.below hb1
          obtain ⟨u0, u1, u2⟩ := id hU01
          obtain ⟨v0, v1, v2⟩ := id hU11
          clear hb1 hU0 hU1 hs0
          rw [HQ.out]
          go_wp2_with fail
          refine (rfind_any A cap l a c _ (by omega) hs1).mono ?_
          rintro e w2 ⟨rfl, hb2⟩
          have hB2 := since_step hB1 hb2
          have hs2 := hs1.below hb2
          obtain ⟨lu1, v1', v2'⟩ := hU11.below hb2
          obtain ⟨lu0, u1', u2'⟩ := hU01.below hb2
          have hcs := @cell_set
          clear hb2 hs1 hU11 hU01 u0 u1 u2 v0 v1 v2
          rw [HH.out, HFD.out]
          obtain ⟨v, hv⟩ : ∃ v, l[k] = v := ⟨_, rfl⟩
          rw [hv]
          have hV := HV.out
          rw [hv] at hV hofc
          clear hv
          obtain ⟨fa, fc, xa, xc, con⟩ := v
          obtain ⟨h11, h12⟩ := hV
          obtain rfl : va = xa := h11.symm
          obtain rfl : vc = xc := h12.symm
          obtain ⟨h13, h14⟩ := hofc
          obtain rfl : a = fa := h13.symm
          obtain rfl : c = fc := h14.symm
          unfold Ch.val
          go_wp2_with fail
          go_ret2
          rw [HR.out]
          refine ⟨ElRes.nil _ _ _, ?_⟩
          repeat' (first | with_reducible exact hB2 | with_reducible refine Below.drew ?_ | with_reducible refine Below.setCell ?_ ?_ _ | with_reducible refine Below.alloc ?_ ?_ _)
          all_goals (have h9 := hB2.size; first | omega | (simp; done) | (simp; omega))
      · have HR := Lib.hid (show agreeR l a c ta tc = (11, []) by rw [hR, if_neg (fun h => h1 h.1)])
        clear hR
        go_enter Try.func33, Try.ntmps33
        go_wp2_with fail
        refine (HIS.out _ hs0).mono ?_
        rintro e w1 ⟨rfl, hb1⟩
        have hB1 := since_step hB0 hb1
        have hs1 := hs0.below hb1
        have hU01 := hU0.below hb1
        have hU11 := hU1.below hb1
        obtain ⟨u0, u1, u2⟩ := id hU01
        obtain ⟨v0, v1, v2⟩ := id hU11
        clear hb1 hU0 hU1 hs0
        rw [HQ.out]
        go_wp2_with fail
        refine (rfind_any A cap l a c _ (by omega) hs1).mono ?_
        rintro e w2 ⟨rfl, hb2⟩
        have hB2 := since_step hB1 hb2
        have hs2 := hs1.below hb2
        obtain ⟨lu1, v1', v2'⟩ := hU11.below hb2
        obtain ⟨lu0, u1', u2'⟩ := hU01.below hb2
        have hcs := @cell_set
        clear hb2 hs1 hU11 hU01 u0 u1 u2 v0 v1 v2
        rw [HH.out, HFD.out]
        obtain ⟨v, hv⟩ : ∃ v, l[k] = v := ⟨_, rfl⟩
        rw [hv]
        have hV := HV.out
        rw [hv] at hV hofc
        clear hv
        obtain ⟨fa, fc, xa, xc, con⟩ := v
        obtain ⟨h11, h12⟩ := hV
        obtain rfl : va = xa := h11.symm
        obtain rfl : vc = xc := h12.symm
        obtain ⟨h13, h14⟩ := hofc
        obtain rfl : a = fa := h13.symm
        obtain rfl : c = fc := h14.symm
        unfold Ch.val
        go_wp2_with fail
        go_ret2
        rw [HR.out]
        refine ⟨ElRes.nil _ _ _, ?_⟩
        repeat' (first | with_reducible exact hB2 | with_reducible refine Below.drew ?_ | with_reducible refine Below.setCell ?_ ?_ _ | with_reducible refine Below.alloc ?_ ?_ _)
        all_goals (have h9 := hB2.size; first | omega | (simp; done) | (simp; omega))
end Go.Proofs.Ytniapgcohihkhaa
