import Derived.Test.YtiggcpfmmgmncaaVp16
set_option maxHeartbeats 16000000
set_option maxRecDepth 100000
set_option linter.unusedVariables false
set_option linter.unusedSimpArgs false
namespace Go.Proofs.Ytiggcpfmmgmncaa
open Go.ChangeShapes Go.WideShapes Go.ChangeAt Go.RowKit
section
def RRes (B : Nat) (w' : World) (e : Ending) : Option (List Nat × Fr) → Prop
  | none => e = .returned (.tuple #[.slice none 0 0, .agg #[.int .i64 0, .int .i64 0, .int .i64 0, .int .i64 0, .int .i64 0, .slice none 0 0], .bool false])
  | some (l, f) => ∃ A' c' A2 c2, e = .returned (.tuple #[.slice A' l.length c', f.val A2 c2, .bool true]) ∧ w'.ownsRow B 5 1 (.slice A' l.length c') l.length (by8 l)
theorem RRes_no (B : Nat) (w' : World) {R : Option (List Nat × Fr)} (h : R = none) : RRes B w' (.returned (.tuple #[.slice none 0 0, .agg #[.int .i64 0, .int .i64 0, .int .i64 0, .int .i64 0, .int .i64 0, .slice none 0 0], .bool false])) R := by
  subst h; rfl
theorem RRes_some {B : Nat} {w' : World} {R : Option (List Nat × Fr)} {l : List Nat} {f0 f1 f2 f3 f4 : Int} {fd : List Nat} {z c' c2 : Nat} {A' A2 : Option Addr} (h : R = some (l, ⟨f0, f1, f2, f3, f4, fd⟩)) (hz : fd.length = z) (ho : w'.ownsRow B 5 1 (.slice A' l.length c') l.length (by8 l)) :
    RRes B w' (.returned (.tuple #[.slice A' l.length c', .agg #[.int .i64 f0, .int .i64 f1, .int .i64 f2, .int .i64 f3, .int .i64 f4, .slice A2 z c2], .bool true])) R := by
  subst h; subst hz
  exact ⟨A', c', A2, c2, rfl, ho⟩
theorem own_drew {w : World} {base e size n : Nat} {v : Value} {xs : List Value} (h : w.ownsRow base e size v n xs) : w.drew.ownsRow base e size v n xs := h
theorem takeF_none {S : List (List Nat)} {i : Int} {j : Nat} (h : takeF S i j = none) : ∀ k, j ≤ k → takeF S i k = none := by
  intro k
  induction k with
  | zero => intro hk; obtain rfl : j = 0 := by omega
            exact h
  | succ k ih =>
    intro hk
    by_cases e : j = k + 1
    · subst e; exact h
    · unfold takeF; rw [ih (by omega)]
theorem readF_ge {S : List (List Nat)} {i tt : Int} (h : tt ≤ i) : readF S i tt = none := if_pos h
theorem readF_no {S : List (List Nat)} {i tt : Int} (h : frD S i = none) : readF S i tt = none := by
  unfold readF
  split
  · rfl
  · rw [h]
theorem readF_long {S : List (List Nat)} {i tt : Int} {f : Fr} (h : frD S i = some f) (h2 : tt - i < f.parts) : readF S i tt = none := by
  unfold readF
  split
  · rfl
  · rw [h]; simp only; rw [if_pos h2]
theorem readF_hole {S : List (List Nat)} {i tt : Int} {f : Fr} {j : Nat} (h : frD S i = some f) (hj : j ≤ f.parts.toNat) (h2 : takeF S i j = none) : readF S i tt = none := by
  unfold readF
  split
  · rfl
  · rw [h]; simp only
    split
    · rfl
    · rw [takeF_none h2 _ hj]
theorem readF_full {S : List (List Nat)} {i tt : Int} {f : Fr} {l : List Fr} (h : frD S i = some f) (h1 : i < tt) (h0 : f.parts ≤ tt - i) (h2 : takeF S i f.parts.toNat = some l) : readF S i tt = if (joinF l).2 = true then some ((joinF l).1, f) else none := by
  unfold readF
  rw [if_neg (by omega), h]
  simp only
  rw [if_neg (by omega), h2]
theorem rread_ge {b : Nat} (k tt : Int) (w : World) (hk : tt ≤ k) :
    Calls Try.prog 89 #[.pointer (some ⟨b, 0, none⟩), .int .i64 k, .int .i64 tt] w fun e w' => RRes w.heap.size w' e none ∧ Below w.heap.size w w' := by
  go_enter Try.func89, Try.ntmps89
  go_wp2_with fail
  refine bodyPost_ret (v := .tuple #[.slice none 0 0, .agg #[.int .i64 0, .int .i64 0, .int .i64 0, .int .i64 0, .int .i64 0, .slice none 0 0], .bool false]) ?_ rfl ⟨rfl, ?_⟩
  · simp [results, Try.results89, go_sem]
  · exact since_alloc (Below.refl _ _) _
theorem rread_no {B b g kc : Nat} {K : Option Addr} {d : Dv} (k tt : Nat) (w : World) (h : DrA B w b g K kc d) (htt : tt ≤ d.S.length) (hk : k < tt) (hn : frD d.S k = none ∨ ∃ f, frD d.S k = some f ∧ (tt : Int) - k < f.parts) :
    Calls Try.prog 89 #[.pointer (some ⟨b, 0, none⟩), .int .i64 k, .int .i64 tt] w fun e w' => RRes w.heap.size w' e none ∧ Below w.heap.size w w' := by
  have HF := Lib.hid (fun V (hV : Below w.heap.size w V) => rframe_at k V (h.below hV) (by omega))
  have hSl := h.len.2
  have hw1 : IntKind.i64.wrap ((tt : Int) - (k : Int)) = (tt : Int) - (k : Int) := by rw [IntKind.wrap_i64]; omega
  have hkt : (k : Int) < (tt : Int) := by omega
  have hB0 : Below w.heap.size w (w.alloc (.cells #[.int .i64 0, .int .i64 0, .int .i64 0, .int .i64 0, .int .i64 0, .slice none 0 0] 130)) := since_alloc (Below.refl _ _) _
  have HB0 := Lib.hid hB0
  clear hB0 h
  rcases hn with hn | ⟨f, hf, hlong⟩
  · rw [hn] at HF
    clear hn
    go_enter Try.func89, Try.ntmps89
    go_wp2_with fail
    refine (HF.out _ HB0.out).mono ?_
    rintro e w1 ⟨⟨A1, c1, rfl, own1⟩, hb⟩
    obtain ⟨⟨y0, y1, y2, y3, y4, y5⟩, ⟨z0, z1, z2, z3, z4, z5⟩, hlt⟩ := six_got (by rw [World.size_alloc] at hb; exact hb)
    have hB1 := Lib.hid (since_step HB0.out hb)
    clear hb own1
    unfold Fr.val
    simp only [Option.getD_none, Option.isSome_none, Fr0]
    go_wp2_with fail
    refine bodyPost_ret (v := .tuple #[.slice none 0 0, .agg #[.int .i64 0, .int .i64 0, .int .i64 0, .int .i64 0, .int .i64 0, .slice none 0 0], .bool false]) ?_ rfl ⟨rfl, ?_⟩
    · simp [results, Try.results89, go_sem, y0, y1, y2, y3, y4, y5, hlt]
    · exact (below_six hB1.out (Nat.le_refl _)).alloc (Nat.le_of_lt (by simpa using hlt)) _
  · rw [hf] at HF
    obtain ⟨f0, f1, f2, f3, f4, fd⟩ := f
    simp only at hlong
    clear hf
    go_enter Try.func89, Try.ntmps89
    go_wp2_with fail
    refine (HF.out _ HB0.out).mono ?_
    rintro e w1 ⟨⟨A1, c1, rfl, own1⟩, hb⟩
    obtain ⟨⟨y0, y1, y2, y3, y4, y5⟩, ⟨z0, z1, z2, z3, z4, z5⟩, hlt⟩ := six_got (by rw [World.size_alloc] at hb; exact hb)
    have hB1 := Lib.hid (since_step HB0.out hb)
    clear hb own1
    unfold Fr.val
    simp only [Option.getD_some, Option.isSome_some]
    go_wp2_with fail
    refine bodyPost_ret (v := .tuple #[.slice none 0 0, .agg #[.int .i64 0, .int .i64 0, .int .i64 0, .int .i64 0, .int .i64 0, .slice none 0 0], .bool false]) ?_ rfl ⟨rfl, ?_⟩
    · simp [results, Try.results89, go_sem, y0, y1, y2, y3, y4, y5, hlt]
    · exact (below_six hB1.out (Nat.le_refl _)).alloc (Nat.le_of_lt (by simpa using hlt)) _
theorem takeF_data {S : List (List Nat)} {i : Int} {k : Nat} {l : List Fr} (h : takeF S i k = some l) : ∀ f ∈ l, f.data.length ≤ 80 := by
  obtain ⟨h1, h2⟩ := takeF_iff.1 h
  intro f hf
  obtain ⟨j, hj, rfl⟩ := List.getElem_of_mem hf
  have := h2 j (by omega)
  rw [List.getElem?_eq_getElem hj] at this
  exact ((Fr.ok_iff _).1 (frD_some this).2.2.2).2.2.2.2.2.2.2.2.2.2
theorem takeF_some {S : List (List Nat)} {i : Int} {k : Nat} {l : List Fr} {f : Fr} (h : takeF S i k = some l) (hf : frD S (i + (k : Int)) = some f) : takeF S i (k + 1) = some (l ++ [f]) := by
  unfold takeF; rw [h]; simp only; rw [hf]
theorem takeF_stop {S : List (List Nat)} {i : Int} {k : Nat} (hf : frD S (i + (k : Int)) = none) : takeF S i (k + 1) = none := by
  unfold takeF
  split
  · rfl
  · rw [hf]
theorem getD_some' {α : Type} (a b : α) : (some a).getD b = a := rfl
theorem rread_go {B b g kc : Nat} {K : Option Addr} {d : Dv} (k tt : Nat) (f : Fr) (w : World) (h : DrA B w b g K kc d) (htt : tt ≤ d.S.length) (hk : k < tt) (hf : frD d.S k = some f) (hlong : f.parts ≤ (tt : Int) - k) :
    Calls Try.prog 89 #[.pointer (some ⟨b, 0, none⟩), .int .i64 k, .int .i64 tt] w fun e w' => RRes w.heap.size w' e (readF d.S k tt) ∧ Below w.heap.size w w' := by
  have HF := Lib.hid (fun (j : Nat) V (hV : Below w.heap.size w V) (hj : k + j < d.S.length) => rframe_at (k + j) V (h.below hV) hj)
  have HF0 := Lib.hid (fun V (hV : Below w.heap.size w V) => rframe_at k V (h.below hV) (by omega))
  rw [hf] at HF0
  have hSl := h.len.2
  have hw1 : IntKind.i64.wrap ((tt : Int) - (k : Int)) = (tt : Int) - (k : Int) := by rw [IntKind.wrap_i64]; omega
  have hkt : (k : Int) < (tt : Int) := by omega
  have hkt2 : ¬ tt ≤ k := by omega
  have hB0 : Below w.heap.size w (w.alloc (.cells #[.int .i64 0, .int .i64 0, .int .i64 0, .int .i64 0, .int .i64 0, .slice none 0 0] 130)) := since_alloc (Below.refl _ _) _
  have HB0 := Lib.hid hB0
  have hok := (Fr.ok_iff f).1 (frD_some hf).2.2.2
  have HHOLE := Lib.hid (fun (j : Nat) (hj : j ≤ f.parts.toNat) (h2 : takeF d.S k j = none) => readF_hole (tt := tt) hf hj h2)
  have HFULL := Lib.hid (fun (l : List Fr) (h2 : takeF d.S k f.parts.toNat = some l) => readF_full (tt := tt) hf (by omega) hlong h2)
  have HT1 : Hid (takeF d.S k 1 = some [f]) := Lib.hid (by unfold takeF takeF; simp [hf])
  have HTT := Lib.hid htt
  clear hB0 h hf
  obtain ⟨f0, f1, f2, f3, f4, fd⟩ := f
  simp only at hok hlong
  obtain ⟨_, _, _, _, _, _, hp1, hp2, _, _, hd80⟩ := hok
  obtain ⟨n, rfl⟩ : ∃ n : Nat, f4 = (n : Int) := ⟨f4.toNat, by omega⟩
  simp only [Int.toNat_natCast] at HHOLE HFULL
  obtain ⟨R, hR⟩ : ∃ R, readF d.S k tt = R := ⟨_, rfl⟩
  rw [hR] at HHOLE HFULL ⊢
  clear hR
  obtain ⟨z, hz⟩ : ∃ z, fd.length = z := ⟨_, rfl⟩
  have HZ := Lib.hid hz
  clear hz hd80
  go_enter Try.func89, Try.ntmps89
  go_wp2_with fail
  refine (HF0.out _ HB0.out).mono ?_
  rintro e w1 ⟨⟨A1, c1, rfl, own1⟩, hb⟩
  rw [getD_some'] at own1 ⊢
  simp only at own1
  rw [HZ.out] at own1
  obtain ⟨⟨y0, y1, y2, y3, y4, y5⟩, ⟨z0, z1, z2, z3, z4, z5⟩, hlt⟩ := six_got (by rw [World.size_alloc] at hb; exact hb)
  have hB1 := Lib.hid (since_step HB0.out hb)
  have HOW1 := Lib.hid (own_base own1 (show w.heap.size ≤ (w.alloc (.cells #[.int .i64 0, .int .i64 0, .int .i64 0, .int .i64 0, .int .i64 0, .slice none 0 0] 130)).heap.size by simp))
  clear own1 HF0
  unfold Fr.val
  simp only [Option.isSome_some, HZ.out]
  go_wp2_with fail
  have HB := Lib.hid (show Below (w.heap.size + 1) (w.alloc (.cells #[.int .i64 0, .int .i64 0, .int .i64 0, .int .i64 0, .int .i64 0, .slice none 0 0] 130)) w1 by rw [World.size_alloc] at hb; exact hb)
  have HBX := Lib.hid (fun V (hV : Below (w1.heap.size + 1) ((w1.alloc (.cells #[.int .i64 f0, .int .i64 f1, .int .i64 f2, .int .i64 f3, .int .i64 (n : Int), .slice A1 z c1] 130)).alloc (.cells #[.int .i64 f0, .int .i64 f1, .int .i64 f2, .int .i64 f3, .int .i64 (n : Int), .slice A1 z c1] 130)) V) => (show (_ ∧ _ ∧ _) ∧ (_ ∧ _ ∧ _) ∧ Below w.heap.size w V from by
    have hs1 := HB.out.size
    rw [World.size_alloc] at hs1
    have hA : Below (w1.heap.size + 1) (w1.alloc (.cells #[.int .i64 f0, .int .i64 f1, .int .i64 f2, .int .i64 f3, .int .i64 (n : Int), .slice A1 z c1] 130)) V := ((Below.refl _ (w1.alloc (.cells #[.int .i64 f0, .int .i64 f1, .int .i64 f2, .int .i64 f3, .int .i64 (n : Int), .slice A1 z c1] 130))).alloc (by simp) (.cells #[.int .i64 f0, .int .i64 f1, .int .i64 f2, .int .i64 f3, .int .i64 (n : Int), .slice A1 z c1] 130)).trans hV
    have hW : Below (w.heap.size + 1) (w.alloc (.cells #[.int .i64 0, .int .i64 0, .int .i64 0, .int .i64 0, .int .i64 0, .slice none 0 0] 130)) V := HB.out.trans ((((Below.refl (w.heap.size + 1) w1).alloc hs1 (.cells #[.int .i64 f0, .int .i64 f1, .int .i64 f2, .int .i64 f3, .int .i64 (n : Int), .slice A1 z c1] 130))).trans (hA.mono (by omega)))
    exact ⟨six_got hW, six_got hA, (Below.alloc (Below.refl _ w) (Nat.le_refl _) (.cells #[.int .i64 0, .int .i64 0, .int .i64 0, .int .i64 0, .int .i64 0, .slice none 0 0] 130)).trans (hW.mono (Nat.le_succ _))⟩))
  have hB0' : Below (w1.heap.size + 1) ((w1.alloc (.cells #[.int .i64 f0, .int .i64 f1, .int .i64 f2, .int .i64 f3, .int .i64 (n : Int), .slice A1 z c1] 130)).alloc (.cells #[.int .i64 f0, .int .i64 f1, .int .i64 f2, .int .i64 f3, .int .i64 (n : Int), .slice A1 z c1] 130)) ((w1.alloc (.cells #[.int .i64 f0, .int .i64 f1, .int .i64 f2, .int .i64 f3, .int .i64 (n : Int), .slice A1 z c1] 130)).alloc (.cells #[.int .i64 f0, .int .i64 f1, .int .i64 f2, .int .i64 f3, .int .i64 (n : Int), .slice A1 z c1] 130)) := Below.refl _ _
  have HOWL : Hid (((w1.alloc (.cells #[.int .i64 f0, .int .i64 f1, .int .i64 f2, .int .i64 f3, .int .i64 (n : Int), .slice A1 z c1] 130)).alloc (.cells #[.int .i64 f0, .int .i64 f1, .int .i64 f2, .int .i64 f3, .int .i64 (n : Int), .slice A1 z c1] 130)).ownsRow (w1.heap.size + 1) 130 6 (.slice (some ⟨w1.heap.size + 1, 0, none⟩) 1 1) 1 (rc Fh.cells [(⟨(⟨f0, f1, f2, f3, (n : Int), fd⟩ : Fr), A1, c1⟩ : Fh)])) := Lib.hid (by
    have hh : ((w1.alloc (.cells #[.int .i64 f0, .int .i64 f1, .int .i64 f2, .int .i64 f3, .int .i64 (n : Int), .slice A1 z c1] 130)).alloc (.cells #[.int .i64 f0, .int .i64 f1, .int .i64 f2, .int .i64 f3, .int .i64 (n : Int), .slice A1 z c1] 130)).heap[w1.heap.size + 1]? = some (.cells #[.int .i64 f0, .int .i64 f1, .int .i64 f2, .int .i64 f3, .int .i64 (n : Int), .slice A1 z c1] 130 (0, 0)) := by
      have := heap_alloc_new (w1.alloc (.cells #[.int .i64 f0, .int .i64 f1, .int .i64 f2, .int .i64 f3, .int .i64 (n : Int), .slice A1 z c1] 130)) (.cells #[.int .i64 f0, .int .i64 f1, .int .i64 f2, .int .i64 f3, .int .i64 (n : Int), .slice A1 z c1] 130)
      rw [World.size_alloc] at this
      exact this
    refine own_of_heap (xs := rc Fh.cells [(⟨(⟨f0, f1, f2, f3, (n : Int), fd⟩ : Fr), A1, c1⟩ : Fh)]) ?_ ?_ (Nat.le_refl _) (by decide)
    · rw [hh]
      simp [rc, Fh.cells, HZ.out]
    · simp [rc, Fh.cells])
  have HOWF : Hid (OwnF w.heap.size ((w1.alloc (.cells #[.int .i64 f0, .int .i64 f1, .int .i64 f2, .int .i64 f3, .int .i64 (n : Int), .slice A1 z c1] 130)).alloc (.cells #[.int .i64 f0, .int .i64 f1, .int .i64 f2, .int .i64 f3, .int .i64 (n : Int), .slice A1 z c1] 130)) [(⟨(⟨f0, f1, f2, f3, (n : Int), fd⟩ : Fr), A1, c1⟩ : Fh)]) := Lib.hid (fun s hs => by
    rw [List.mem_singleton] at hs
    subst hs
    simp only [HZ.out]
    exact (HOW1.out.alloc _).alloc _)
  clear y0 y1 y2 y3 y4 y5 z0 z1 z2 z3 z4 z5 hlt hb
  go_loopw [11, 12] (fun bv iv wr => ∃ (j : Nat) (A2 : Option Addr) (c2 : Nat) (H : List Fh), 1 ≤ j ∧ j ≤ n ∧ H.length = j ∧ bv = .slice A2 H.length c2 ∧ iv = .int .i64 j ∧ Hid (takeF d.S k j = some (H.map Fh.f)) ∧ Hid (wr.ownsRow (w1.heap.size + 1) 130 6 (.slice A2 H.length c2) H.length (rc Fh.cells H)) ∧ Hid (OwnF w.heap.size wr H) ∧ Hid (Below (w1.heap.size + 1) ((w1.alloc (.cells #[.int .i64 f0, .int .i64 f1, .int .i64 f2, .int .i64 f3, .int .i64 (n : Int), .slice A1 z c1] 130)).alloc (.cells #[.int .i64 f0, .int .i64 f1, .int .i64 f2, .int .i64 f3, .int .i64 (n : Int), .slice A1 z c1] 130)) wr)) (fun _ iv _ => n - (intOf iv).toNat)
  case atStart => exact ⟨1, some ⟨w1.heap.size + 1, 0, none⟩, 1, [⟨(⟨f0, f1, f2, f3, (n : Int), fd⟩ : Fr), A1, c1⟩], Nat.le_refl _, by omega, rfl, rfl, rfl, HT1, HOWL, HOWF, hB0'⟩
  case round =>
    obtain ⟨j, A2, c2, H, hj1, hjn, hHj, rfl, rfl, HTK, HOWN, HOWF2, HBR⟩ := hrel
    rw [hHj] at HOWN ⊢
    have HHJ := Lib.hid hHj
    clear hHj
    obtain ⟨⟨⟨y0, y1, y2, y3, y4, y5⟩, ⟨z0, z1, z2, z3, z4, z5⟩, hlt⟩, ⟨⟨x0, x1, x2, x3, x4, x5⟩, _, hltG⟩, hBW⟩ := HBX.out _ HBR.out
    have hBW := Lib.hid hBW
    by_cases hlt2 : j < n
    · have hlk : (j : Int) < (n : Int) := by omega
      have hwj : IntKind.i64.wrap ((k : Int) + (j : Int)) = ((k + j : Nat) : Int) := by rw [IntKind.wrap_i64]; have := HTT.out; omega
      have hFJ := HF.out j wr hBW.out (by have := HTT.out; omega)
      cases hfj : frD d.S ((k + j : Nat) : Int) with
      | none =>
        rw [hfj] at hFJ
        have HRN : Hid (R = none) := Lib.hid (HHOLE.out (j + 1) (by omega) (takeF_stop (by rw [show (k : Int) + (j : Int) = ((k + j : Nat) : Int) by omega]; exact hfj)))
        have HFJ := Lib.hid hFJ
        clear hFJ hfj
        go_wp2_with fail
        refine HFJ.out.mono ?_
        rintro e w3 ⟨⟨A3, c3, rfl, own3⟩, hb3⟩
        have hB3 := HBR.out.trans (hb3.mono (show w1.heap.size + 1 ≤ wr.heap.size by omega))
        clear y0 y1 y2 y3 y4 y5 z0 z1 z2 z3 z4 z5 x0 x1 x2 x3 x4 x5 hlt hltG own3 hBW
        obtain ⟨⟨⟨y0, y1, y2, y3, y4, y5⟩, ⟨z0, z1, z2, z3, z4, z5⟩, hlt⟩, ⟨⟨x0, x1, x2, x3, x4, x5⟩, _, hltG⟩, hBW⟩ := HBX.out _ hB3
        unfold Fr.val
        simp only [Option.getD_none, Option.isSome_none, Fr0]
        go_wp2_with fail
        refine bodyPost_ret (v := .tuple #[.slice none 0 0, .agg #[.int .i64 0, .int .i64 0, .int .i64 0, .int .i64 0, .int .i64 0, .slice none 0 0], .bool false]) ?_ rfl ⟨RRes_no _ _ HRN.out, ?_⟩
        · simp [results, Try.results89, go_sem, y0, y1, y2, y3, y4, y5, hlt]
        · exact (below_six hBW (Nat.le_refl _)).alloc (Nat.le_of_lt (by simpa using hlt)) _
      | some g =>
        rw [hfj] at hFJ
        have HTK1 : Hid (takeF d.S k (j + 1) = some (H.map Fh.f ++ [g])) := Lib.hid (takeF_some HTK.out (by rw [show (k : Int) + (j : Int) = ((k + j : Nat) : Int) by omega]; exact hfj))
        have HFJ := Lib.hid hFJ
        clear hFJ hfj
        obtain ⟨g0, g1, g2, g3, g4, gd⟩ := g
        go_wp2_with fail
        refine HFJ.out.mono ?_
        rintro e w3 ⟨⟨A3, c3, rfl, own3⟩, hb3⟩
        rw [getD_some'] at own3 ⊢
        simp only at own3
        unfold Fr.val
        simp only [Option.isSome_some]
        have HB3 := Lib.hid hb3
        have HOW3 := Lib.hid (own_base own3 (show w.heap.size ≤ wr.heap.size from hBW.out.size))
        have hB3 := HBR.out.trans (hb3.mono (show w1.heap.size + 1 ≤ wr.heap.size by omega))
        clear y0 y1 y2 y3 y4 y5 z0 z1 z2 z3 z4 z5 x0 x1 x2 x3 x4 x5 hlt hltG own3 hb3 hBW
        obtain ⟨⟨⟨y0, y1, y2, y3, y4, y5⟩, ⟨z0, z1, z2, z3, z4, z5⟩, hlt⟩, ⟨⟨x0, x1, x2, x3, x4, x5⟩, _, hltG⟩, hBW⟩ := HBX.out _ hB3
        clear hBW
        have hsz3 : w1.heap.size + 1 ≤ w3.heap.size := by have := hB3.size; simp only [World.size_alloc] at this; omega
        have HB3' := Lib.hid hB3
        have HSZ3 := Lib.hid hsz3
        clear hB3 hsz3
        go_wp2_with (first
          | (at_builtin; refine wpList_app rfl (.tmp 56) (.tmp 58) rfl EFR rfl rfl (((own_below HOWN.out HB3.out).alloc _).alloc _) (m := 1) (news := [.int .i64 g0, .int .i64 g1, .int .i64 g2, .int .i64 g3, .int .i64 g4, .slice A3 gd.length c3]) rfl (Sl.new1 _ _ _ _) (by intro u hu; simp only [List.mem_cons, List.not_mem_nil, or_false] at hu; rcases hu with h | h | h | h | h | h <;> subst h <;> rfl) (by unfold maxLen; omega) (by omega) (by simp only [World.size_alloc]; have := HSZ3.out; omega) ?_; intro A5 c5 w5 own5 hg5 hb5)
          | fail)
        have HHN : Hid (w3.ownsRow (w1.heap.size + 1) 130 6 (.slice A2 j c2) j (rc Fh.cells H)) := Lib.hid (own_below HOWN.out HB3.out)
        have HK5 := Lib.hid (fun (v : Value) (m : Nat) (xs : List Value) (ho : w3.ownsRow w.heap.size 5 1 v m xs) => own_keptF ((ho.alloc _).alloc _) ((HHN.out.alloc _).alloc _) hg5)
        have HOF5 : Hid (OwnF w.heap.size w5 (H ++ [(⟨⟨g0, g1, g2, g3, g4, gd⟩, A3, c3⟩ : Fh)])) := Lib.hid (fun s hs => by
          rcases List.mem_append.1 hs with h | h
          · exact HK5.out _ _ _ (own_below (HOWF2.out s h) HB3.out)
          · rw [List.mem_singleton] at h
            subst h
            exact HK5.out _ _ _ HOW3.out)
        have HL5 : Hid ((H ++ [(⟨⟨g0, g1, g2, g3, g4, gd⟩, A3, c3⟩ : Fh)]).length = j + 1) := Lib.hid (by rw [List.length_append, HHJ.out]; rfl)
        have HON5 : Hid (w5.ownsRow (w1.heap.size + 1) 130 6 (.slice A5 (j + 1) c5) (j + 1) (rc Fh.cells (H ++ [(⟨⟨g0, g1, g2, g3, g4, gd⟩, A3, c3⟩ : Fh)]))) := Lib.hid (by rw [rc_append]; exact own5)
        have HTK5 : Hid (takeF d.S k (j + 1) = some ((H ++ [(⟨⟨g0, g1, g2, g3, g4, gd⟩, A3, c3⟩ : Fh)]).map Fh.f)) := Lib.hid (by rw [HTK1.out, List.map_append]; rfl)
        have HB5 : Hid (Below (w1.heap.size + 1) ((w1.alloc (.cells #[.int .i64 f0, .int .i64 f1, .int .i64 f2, .int .i64 f3, .int .i64 (n : Int), .slice A1 z c1] 130)).alloc (.cells #[.int .i64 f0, .int .i64 f1, .int .i64 f2, .int .i64 f3, .int .i64 (n : Int), .slice A1 z c1] 130)) w5) := Lib.hid (((HB3'.out.alloc HSZ3.out _).alloc (by have := HSZ3.out; simp only [World.size_alloc]; omega) _).trans hb5)
        clear own5 hg5 hb5
        go_roundw
        case rel => exact ⟨j + 1, A5, c5, H ++ [(⟨⟨g0, g1, g2, g3, g4, gd⟩, A3, c3⟩ : Fh)], by omega, by omega, HL5.out, by rw [HL5.out], by go_num, HTK5, by rw [HL5.out]; exact HON5, HOF5, HB5⟩
        case measure => simp [intOf]; omega
    · obtain rfl : j = n := by omega
      have hlk : ¬ (j : Int) < (j : Int) := by omega
      have HJ := Lib.hid (fjoin7_any A2 c2 H wr (by rw [HHJ.out]; omega) (Sl.of_own HOWN.out) (fun h hh => ⟨Sl.of_own (HOWF2.out h hh), by have := takeF_data HTK.out h.f (List.mem_map.2 ⟨h, hh, rfl⟩); omega⟩))
      rw [HHJ.out] at HJ
      have HRF := Lib.hid (HFULL.out _ HTK.out)
      obtain ⟨⟨l, ok⟩, hl⟩ : ∃ L, joinF (H.map Fh.f) = L := ⟨_, rfl⟩
      rw [hl] at HJ HRF
      simp only at HJ HRF
      clear hl
      cases ok with
      | true =>
        have HRT : Hid (R = some (l, (⟨f0, f1, f2, f3, (j : Int), fd⟩ : Fr))) := Lib.hid (by rw [HRF.out]; rfl)
        go_wp2_with fail
        refine HJ.out.mono ?_
        rintro e w3 ⟨⟨A3, c3, rfl, own3⟩, hb3⟩
        have HOW3 := Lib.hid (own_base own3 (show w.heap.size ≤ wr.heap.size from hBW.out.size))
        have HOW4 := Lib.hid HOW3.out
        have HNE := Lib.hid (show (Value.slice A3 l.length c3).ownBlock ≠ some w.heap.size from fun e => by have h1 := own_ge own3 _ e; omega)
        have hB3 := HBR.out.trans (hb3.mono (show w1.heap.size + 1 ≤ wr.heap.size by omega))
        clear y0 y1 y2 y3 y4 y5 z0 z1 z2 z3 z4 z5 x0 x1 x2 x3 x4 x5 hlt hltG own3 hb3 hBW HRF
        obtain ⟨⟨⟨y0, y1, y2, y3, y4, y5⟩, ⟨z0, z1, z2, z3, z4, z5⟩, hlt⟩, ⟨⟨x0, x1, x2, x3, x4, x5⟩, _, hltG⟩, hBW⟩ := HBX.out _ hB3
        clear hB3
        have HBW := Lib.hid hBW
        clear hBW
        go_wp2_with fail
        go_region
        go_wp2_with fail
        all_goals (refine bodyPost_ret (v := .tuple #[.slice A3 l.length c3, .agg #[.int .i64 f0, .int .i64 f1, .int .i64 f2, .int .i64 f3, .int .i64 (j : Int), .slice A1 z c1], .bool true]) ?_ rfl ⟨?_, ?_⟩)
        · simp [results, Try.results89, go_sem, y0, y1, y2, y3, y4, y5, hlt]
        · exact RRes_some HRT.out HZ.out (own_drew (own_six HOW4.out HNE.out))
        · exact Below.drew (below_six HBW.out (Nat.le_refl _))
      | false =>
        have HRN : Hid (R = none) := Lib.hid (by rw [HRF.out]; rfl)
        go_wp2_with fail
        refine HJ.out.mono ?_
        rintro e w3 ⟨⟨A3, c3, rfl, own3⟩, hb3⟩
        have hB3 := HBR.out.trans (hb3.mono (show w1.heap.size + 1 ≤ wr.heap.size by omega))
        clear y0 y1 y2 y3 y4 y5 z0 z1 z2 z3 z4 z5 x0 x1 x2 x3 x4 x5 hlt hltG own3 hBW HRF
        obtain ⟨⟨⟨y0, y1, y2, y3, y4, y5⟩, ⟨z0, z1, z2, z3, z4, z5⟩, hlt⟩, ⟨⟨x0, x1, x2, x3, x4, x5⟩, _, hltG⟩, hBW⟩ := HBX.out _ hB3
        go_wp2_with fail
        refine bodyPost_ret (v := .tuple #[.slice none 0 0, .agg #[.int .i64 0, .int .i64 0, .int .i64 0, .int .i64 0, .int .i64 0, .slice none 0 0], .bool false]) ?_ rfl ⟨RRes_no _ _ HRN.out, ?_⟩
        · simp [results, Try.results89, go_sem, y0, y1, y2, y3, y4, y5, hlt]
        · exact below_six hBW (Nat.le_refl _)
theorem rread_any {B b g kc : Nat} {K : Option Addr} {d : Dv} (k tt : Nat) (w : World) (h : DrA B w b g K kc d) (htt : tt ≤ d.S.length) :
    Calls Try.prog 89 #[.pointer (some ⟨b, 0, none⟩), .int .i64 k, .int .i64 tt] w fun e w' => RRes w.heap.size w' e (readF d.S k tt) ∧ Below w.heap.size w w' := by
  by_cases hk : k < tt
  · cases hf : frD d.S k with
    | none =>
      rw [readF_no hf]
      exact rread_no k tt w h htt hk (.inl hf)
    | some f =>
      by_cases hl : f.parts ≤ (tt : Int) - k
      · exact rread_go k tt f w h htt hk hf hl
      · rw [readF_long hf (by omega)]
        exact rread_no k tt w h htt hk (.inr ⟨f, hf, by omega⟩)
  · rw [readF_ge (by omega)]
    exact rread_ge (b := b) k tt w (by omega)
end
end Go.Proofs.Ytiggcpfmmgmncaa
