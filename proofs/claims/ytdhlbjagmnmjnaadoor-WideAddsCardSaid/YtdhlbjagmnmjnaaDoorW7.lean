/-
  WideAdds: the walk.
-/
import Derived.Test.YtdhlbjagmnmjnaaDoorW5
import Derived.Deep.CutRange
import Derived.Deep.CutBlock
import Derived.Deep.DeepCutAuto
namespace Go.Proofs.YtdhlbjagmnmjnaaDoor
open Go.ChangeShapes Go.WideShapes Go.ChangeAt Go.RowKit
set_option linter.unusedVariables false
set_option linter.unusedSimpArgs false

theorem rd_wides {w : World} {A : Option Addr} {n c : Nat} (h : Rd w (.sl (.cat (.int .i64) (.cat (.int .u64) .nil))) [.slice A n c]) :
    ∃ l : List Int, l.length = n ∧ n ≤ c ∧ c ≤ maxLen ∧ Sl w A (wcells l) ∧ ∀ x ∈ l, In128 x := by
  obtain ⟨A', n', c', rows, e, h1, h2, h3, h4, h5⟩ := h
  simp only [List.cons.injEq, Value.slice.injEq, and_true] at e
  obtain ⟨rfl, rfl, rfl⟩ := e
  have key : ∀ rows : List (List Value), (∀ r ∈ rows, Rd w (.cat (.int .i64) (.cat (.int .u64) .nil)) r) → ∃ l : List Int, l.length = rows.length ∧ rows.flatten = wcells l ∧ ∀ x ∈ l, In128 x := by
    intro rows
    induction rows with
    | nil => intro _; exact ⟨[], rfl, rfl, fun x hx => by cases hx⟩
    | cons r rows ih =>
      intro h
      obtain ⟨l, a1, a2, a3⟩ := ih (fun x hx => h x (by simp [hx]))
      obtain ⟨x, hx, e⟩ := rd_wide (a := r.toArray) (by simpa using h r (by simp))
      have e : r = [.int .i64 (hiN x), .int .u64 (loN x)] := by simpa using congrArg Array.toList e
      subst e
      refine ⟨x :: l, by simp [a1], by simp [a2, wcells], ?_⟩
      intro y hy
      rcases List.mem_cons.1 hy with rfl | hy
      · exact hx
      · exact a3 y hy
  obtain ⟨l, a1, a2, a3⟩ := key rows h5
  rw [a2] at h4
  exact ⟨l, by omega, h1, h2, h4, a3⟩
theorem wcells_take (l : List Int) (k : Nat) : wcells (l.take k) = (wcells l).take (k * 2) := by
  induction l generalizing k with
  | nil => simp [wcells]
  | cons a l ih =>
    cases k with
    | zero => simp [wcells]
    | succ k =>
      have := ih k
      simp only [wcells, List.take_succ_cons, List.map_cons, List.flatten_cons] at this ⊢
      rw [this, show (k + 1) * 2 = k * 2 + 2 from by omega]
      rfl
theorem sum_big (l : List Int) (h : ∀ x ∈ l, In128 x) : -(l.length : Int) * 170141183460469231731687303715884105728 ≤ l.sum ∧ l.sum ≤ (l.length : Int) * 170141183460469231731687303715884105728 := by
  induction l with
  | nil => simp
  | cons a l ih =>
    have h1 := ih (fun x hx => h x (by simp [hx]))
    have h2 := h a (by simp)
    unfold In128 at h2
    simp only [List.length_cons, List.sum_cons]
    omega

set_option maxRecDepth 100000 in
set_option maxHeartbeats 8000000 in
theorem walk_WideAdds (a0 : Option Addr) (n0 c0 : Nat) (w : World) (w0 : Rd w (.sl (.cat (.int .i64) (.cat (.int .u64) .nil))) [.slice a0 n0 c0]) :
    Calls Tryd.prog 5 #[.slice a0 n0 c0] w fun e w' => e = .returned (.bool true) ∧ Below w.heap.size w w' := by
  obtain ⟨l0, rfl, hc0, hcm, hs0, hwf⟩ := rd_wides w0
  clear w0
  have hsl : Sl w a0 (wcells (l0.take 40)) := by rw [wcells_take]; exact hs0.take _
  have hll : (l0.take 40).length ≤ 40 := by simp; omega
  have hx : ∀ x ∈ l0.take 40, In128 x := fun x h => hwf x (List.mem_of_mem_take h)
  go_enter Tryd.func5, Tryd.ntmps5
  have hcap : l0.length ≤ c0 := hc0
  by_cases h : 40 < l0.length
  · have hl : (l0.take 40).length = 40 := by simp; omega
    have HL := Lib.hid hl
    clear hl
    have h40 : 40 ≤ c0 := by omega
    have d1 : decide ((40 : Int) < (l0.length : Int)) = true := decide_eq_true (by omega)
    have d1' : decide (40 < l0.length) = true := decide_eq_true h
    obtain ⟨ad, had⟩ : ∃ ad, a0 = some ad := by
      cases a0 with
      | none =>
        exfalso
        obtain ⟨b, o, e, _⟩ := hs0 (by intro e; have := wcells_length l0; rw [e] at this; simp at this; omega)
        cases e
      | some ad => exact ⟨ad, rfl⟩
    subst had
    go_upto_region 3 with fail
    rw [show Value.slice (some ad) 40 c0 = .slice (some ad) (l0.take 40).length c0 from by rw [HL.out]]
    generalize (some ad) = a0 at *
    clear d1 d1' h h40
    clear hs0 hwf hc0 hcap HL
    generalize l0.take 40 = l at *
    have hcs := @cell_set
    have G0 := BB.new w false none 0 0 29
    have hB0 := since_alloc (Below.refl _ w) (.cells #[.bool false, .slice none 0 0] 29)
    go_upto_region 4 with fail
    generalize hW0 : w.alloc (.cells #[.bool false, .slice none 0 0] 29) = W0 at *
    clear hW0
    go_wp2_with fail
    go_loopw [4] (fun i wr => ∃ (k : Nat) (s : Bool) (A1 : Option Addr) (n1 c1 : Nat), i = .int .i64 k ∧ k ≤ l.length ∧ BB wr w.heap.size s A1 n1 c1 ∧ BigAt wr s A1 n1 c1 (l.take k).sum ∧ n1 ≤ 128 + k ∧ Fr (w.heap.size + 1) A1 n1 ∧ Below w.heap.size w wr) (fun i _ => l.length - (intOf i).toNat)
    case atStart => exact ⟨0, false, none, 0, 0, rfl, by omega, G0, BigAt.zero _, by omega, (fun b o h => nomatch h), hB0⟩
    case round =>
      obtain ⟨k, s, A1, n1, c1, rfl, hk, hP, hZ, hn1, hfr, hB⟩ := hrel
      obtain ⟨p0, p1, p2, p3, p4⟩ := _root_.id hP
      by_cases hlt : k < l.length
      · obtain ⟨b, o, rfl, hcc⟩ := hsl (by intro e; have := wcells_length l; rw [e] at this; simp at this; omega)
        obtain ⟨w1, w2⟩ := wcells_hi l k hlt
        have hc1 := hcc _ _ w1
        have hc2 := hcc _ _ w2
        have hbw : b < w.heap.size := World.block_lt_of_cell? _ _ hc1
        have hd1 := (hB.cell (p := ⟨b, o + k * 2, none⟩) hbw).trans hc1
        have hd2 : wr.cell? ⟨b, o + k * 2 + 1, none⟩ = _ := (hB.cell (p := ⟨b, o + (k * 2 + 1), none⟩) hbw).trans hc2
        have hbr : b < wr.heap.size := Nat.lt_of_lt_of_le hbw hB.size
        have hin := hx _ (List.getElem_mem hlt)
        have hsum : (l.take (k + 1)).sum = (l.take k).sum + l[k] := by rw [take_snoc l k hlt, List.sum_append]; simp
        have HS := Lib.hid hsum
        clear hsum w1 w2 hc1 hc2 hcc
        generalize l[k] = x at *
        generalize (l.take k).sum = y at *
        go_upto_region 7 with fail
        go_region_with (first
          | (go_at_call 11; refine (big_any x hin wr.drew).mono ?_; rintro e w1 ⟨⟨s1, A2, n2, c2, rfl, hfr1, hbig1⟩, hb1⟩; have hP1 := hP.drew.below hb1; have hZ1 := hZ.drew.below hb1; have hB1 := since_step hB.drew hb1; have hn2 : n2 ≤ 128 := hbig1.in128 hin; obtain ⟨r0, r1, r2, r3, r4⟩ := _root_.id hP1; clear hb1)
          | (go_at_call 21; refine (badd' (w := w1) (by omega) (by omega) hZ1 hbig1).mono ?_; rintro e w2 ⟨⟨s3, A3, n3, c3, rfl, hfr3, hbig3⟩, hb2⟩; have hP2 := hP1.below hb2; have hB2 := since_step hB1 hb2; have hz1 := hP1.1; have hn3 := len_add hZ1 hbig1 hbig3; obtain ⟨t0, t1, t2, t3, t4⟩ := _root_.id hP2; clear hb2))
        all_goals
          go_wp2
          go_roundw
          case rel =>
            refine ⟨k + 1, s3, A3, n3, c3, by go_num, by omega, hP2.set2 _ _ _ _, ?_, by omega, hfr3.le (by omega) (Nat.le_refl _), ?_⟩
            · rw [HS.out]
              exact (hbig3.far (fun b o hA h0 => by have := hfr3 b o hA h0; simp; omega) _).far (fun b o hA h0 => by have := hfr3 b o hA h0; simp; omega) _
            · refine Below.setCell (Below.setCell hB2 ?_ _) ?_ _ <;> simp
          case measure => simp [intOf]; omega
      · obtain rfl : k = l.length := by omega
        rw [List.take_length] at hZ
        have HA := fun w hs => wadd_any a0 c0 l w (by omega) hx hs
        rw [wideE_form] at HA
        have HA := Lib.hid HA
        have HL := Lib.hid (hsl.below hB)
        clear hx
        generalize l.sum = z at *
        go_upto_region 8 with fail
        go_wp2_with fail
        refine (HA.out _ HL.out).mono ?_
        rintro e w5 ⟨rfl, hb5⟩
        have P5 := (hP.below hb5).alloc (.cells #[.int .i64 (eH z), .int .u64 (eL z)] 24)
        have Z5 := (hZ.below hb5).alloc (.cells #[.int .i64 (eH z), .int .u64 (eL z)] 24)
        have T5 := T2.new w5 (eH z) (eL z) 24
        have hB5 := since_alloc (since_step hB hb5) (.cells #[.int .i64 (eH z), .int .u64 (eL z)] 24)
        clear hb5 hP hZ hB HA HL
        go_upto_region 9 with fail
        generalize w5.alloc (.cells #[.int .i64 (eH z), .int .u64 (eL z)] 24) = W5 at *
        obtain ⟨p0, p1, p2, p3, p4⟩ := _root_.id P5
        obtain ⟨t0, t1, t2, t3, t4⟩ := _root_.id T5
        go_wp2_with fail
        refine (is01_any z s A1 n1 c1 _ (by omega) Z5).mono ?_
        rintro e w6 ⟨rfl, hb6⟩
        have hB6 := since_step hB5 hb6
        go_wp2_with fail
        refine (lives01_any _).mono ?_
        rintro e w7 ⟨rfl, hb7⟩
        have hB7 := since_step hB6 hb7
        go_wp2_with fail
        go_ret
        exact ⟨rfl, hB7⟩
  · have hl : (l0.take 40).length = l0.length := by simp; omega
    have HL := Lib.hid hl
    clear hl
    have d1 : decide ((40 : Int) < (l0.length : Int)) = false := decide_eq_false (by omega)
    have d1' : decide (40 < l0.length) = false := decide_eq_false h
    go_upto_region 3 with fail
    rw [show Value.slice a0 l0.length c0 = .slice a0 (l0.take 40).length c0 from by rw [HL.out]]
    clear d1 d1' h
    clear hs0 hwf hc0 hcap HL
    generalize l0.take 40 = l at *
    have hcs := @cell_set
    have G0 := BB.new w false none 0 0 29
    have hB0 := since_alloc (Below.refl _ w) (.cells #[.bool false, .slice none 0 0] 29)
    go_upto_region 4 with fail
    generalize hW0 : w.alloc (.cells #[.bool false, .slice none 0 0] 29) = W0 at *
    clear hW0
    go_wp2_with fail
    go_loopw [4] (fun i wr => ∃ (k : Nat) (s : Bool) (A1 : Option Addr) (n1 c1 : Nat), i = .int .i64 k ∧ k ≤ l.length ∧ BB wr w.heap.size s A1 n1 c1 ∧ BigAt wr s A1 n1 c1 (l.take k).sum ∧ n1 ≤ 128 + k ∧ Fr (w.heap.size + 1) A1 n1 ∧ Below w.heap.size w wr) (fun i _ => l.length - (intOf i).toNat)
    case atStart => exact ⟨0, false, none, 0, 0, rfl, by omega, G0, BigAt.zero _, by omega, (fun b o h => nomatch h), hB0⟩
    case round =>
      obtain ⟨k, s, A1, n1, c1, rfl, hk, hP, hZ, hn1, hfr, hB⟩ := hrel
      obtain ⟨p0, p1, p2, p3, p4⟩ := _root_.id hP
      by_cases hlt : k < l.length
      · obtain ⟨b, o, rfl, hcc⟩ := hsl (by intro e; have := wcells_length l; rw [e] at this; simp at this; omega)
        obtain ⟨w1, w2⟩ := wcells_hi l k hlt
        have hc1 := hcc _ _ w1
        have hc2 := hcc _ _ w2
        have hbw : b < w.heap.size := World.block_lt_of_cell? _ _ hc1
        have hd1 := (hB.cell (p := ⟨b, o + k * 2, none⟩) hbw).trans hc1
        have hd2 : wr.cell? ⟨b, o + k * 2 + 1, none⟩ = _ := (hB.cell (p := ⟨b, o + (k * 2 + 1), none⟩) hbw).trans hc2
        have hbr : b < wr.heap.size := Nat.lt_of_lt_of_le hbw hB.size
        have hin := hx _ (List.getElem_mem hlt)
        have hsum : (l.take (k + 1)).sum = (l.take k).sum + l[k] := by rw [take_snoc l k hlt, List.sum_append]; simp
        have HS := Lib.hid hsum
        clear hsum w1 w2 hc1 hc2 hcc
        generalize l[k] = x at *
        generalize (l.take k).sum = y at *
        go_upto_region 7 with fail
        go_region_with (first
          | (go_at_call 11; refine (big_any x hin wr.drew).mono ?_; rintro e w1 ⟨⟨s1, A2, n2, c2, rfl, hfr1, hbig1⟩, hb1⟩; have hP1 := hP.drew.below hb1; have hZ1 := hZ.drew.below hb1; have hB1 := since_step hB.drew hb1; have hn2 : n2 ≤ 128 := hbig1.in128 hin; obtain ⟨r0, r1, r2, r3, r4⟩ := _root_.id hP1; clear hb1)
          | (go_at_call 21; refine (badd' (w := w1) (by omega) (by omega) hZ1 hbig1).mono ?_; rintro e w2 ⟨⟨s3, A3, n3, c3, rfl, hfr3, hbig3⟩, hb2⟩; have hP2 := hP1.below hb2; have hB2 := since_step hB1 hb2; have hz1 := hP1.1; have hn3 := len_add hZ1 hbig1 hbig3; obtain ⟨t0, t1, t2, t3, t4⟩ := _root_.id hP2; clear hb2))
        all_goals
          go_wp2
          go_roundw
          case rel =>
            refine ⟨k + 1, s3, A3, n3, c3, by go_num, by omega, hP2.set2 _ _ _ _, ?_, by omega, hfr3.le (by omega) (Nat.le_refl _), ?_⟩
            · rw [HS.out]
              exact (hbig3.far (fun b o hA h0 => by have := hfr3 b o hA h0; simp; omega) _).far (fun b o hA h0 => by have := hfr3 b o hA h0; simp; omega) _
            · refine Below.setCell (Below.setCell hB2 ?_ _) ?_ _ <;> simp
          case measure => simp [intOf]; omega
      · obtain rfl : k = l.length := by omega
        rw [List.take_length] at hZ
        have HA := fun w hs => wadd_any a0 c0 l w (by omega) hx hs
        rw [wideE_form] at HA
        have HA := Lib.hid HA
        have HL := Lib.hid (hsl.below hB)
        clear hx
        generalize l.sum = z at *
        go_upto_region 8 with fail
        go_wp2_with fail
        refine (HA.out _ HL.out).mono ?_
        rintro e w5 ⟨rfl, hb5⟩
        have P5 := (hP.below hb5).alloc (.cells #[.int .i64 (eH z), .int .u64 (eL z)] 24)
        have Z5 := (hZ.below hb5).alloc (.cells #[.int .i64 (eH z), .int .u64 (eL z)] 24)
        have T5 := T2.new w5 (eH z) (eL z) 24
        have hB5 := since_alloc (since_step hB hb5) (.cells #[.int .i64 (eH z), .int .u64 (eL z)] 24)
        clear hb5 hP hZ hB HA HL
        go_upto_region 9 with fail
        generalize w5.alloc (.cells #[.int .i64 (eH z), .int .u64 (eL z)] 24) = W5 at *
        obtain ⟨p0, p1, p2, p3, p4⟩ := _root_.id P5
        obtain ⟨t0, t1, t2, t3, t4⟩ := _root_.id T5
        go_wp2_with fail
        refine (is01_any z s A1 n1 c1 _ (by omega) Z5).mono ?_
        rintro e w6 ⟨rfl, hb6⟩
        have hB6 := since_step hB5 hb6
        go_wp2_with fail
        refine (lives01_any _).mono ?_
        rintro e w7 ⟨rfl, hb7⟩
        have hB7 := since_step hB6 hb7
        go_wp2_with fail
        go_ret
        exact ⟨rfl, hB7⟩
end Go.Proofs.YtdhlbjagmnmjnaaDoor
