/-
  The walks of layer 2, fourth part: FixPicks.
-/
import Derived.Test.YtdhlbjagmnmjnaaFix3
namespace Go.Proofs.Ytdhlbjagmnmjnaa
open Go.ChangeShapes Go.WideShapes Go.ChangeAt Go.RowKit
set_option linter.unusedVariables false
set_option linter.unusedSimpArgs false

theorem EL : Elem Try.prog 22 2 1 8 := Elem.mk' (z := .int .i64 0) (by kernel_rfl) (by kernel_rfl) (by decide) (by decide)
theorem ints_take (k : IntKind) (l : List Int) (n : Nat) : ints k (l.take n) = (ints k l).take n := by simp [ints, List.map_take]
theorem ints_append (k : IntKind) (a b : List Int) : ints k (a ++ b) = ints k a ++ ints k b := by simp [ints]
theorem BB.farB {w w' : World} {B g : Nat} {s : Bool} {A : Option Addr} {n c : Nat} (h : BB w g s A n c) (hb : Below B w w') (hg : g < B) : BB w' g s A n c := by
  obtain ⟨h0, h1, h2, f1, f2⟩ := h
  exact ⟨Nat.lt_of_lt_of_le h0 hb.size, (hb.cell (p := ⟨g, 0, none⟩) hg).trans h1, (hb.cell (p := ⟨g, 1, none⟩) hg).trans h2, (hb.frozen (p := ⟨g, 0, none⟩) hg).trans f1, (hb.frozen (p := ⟨g, 1, none⟩) hg).trans f2⟩
theorem BigAt.abs {w : World} {s : Bool} {A : Option Addr} {n c : Nat} {z : Int} (h : BigAt w s A n c z) : BigAt w false A n c (z.natAbs : Int) := by
  obtain ⟨bits, h1, h2, h3, h4, h5, h6, h7⟩ := h.ex
  refine ⟨bits, h1, h2, h3, h4, h5, (fun h => nomatch h), ?_⟩
  rw [h7]
  cases s <;> simp

set_option maxRecDepth 100000 in
set_option maxHeartbeats 8000000 in
theorem walk_FixPicks (a0 : Int) (a1 : Option Addr) (n1 c1 : Nat) (a2 : Int) (a3 : Int) (w : World) (w0 : (Lit.int .i64 a0).wf = true) (w1 : Rd w (.sl (.int .i64)) [.slice a1 n1 c1]) (w2 : (Lit.int .i64 a2).wf = true) (w3 : (Lit.int .i64 a3).wf = true) :
    Calls Try.prog 5 #[.int .i64 a0, .slice a1 n1 c1, .int .i64 a2, .int .i64 a3] w fun e w' => e = .returned (.bool true) ∧ Below w.heap.size w w' := by
  have ha : In64 a0 := bd_i64 w0
  obtain ⟨l0, rfl, hc0, hcm, hs0, hwf⟩ := rd_ints w1
  clear w0 w1 w2 w3
  have hsl : Sl w a1 (ints .i64 (l0.take 40)) := by rw [ints_take]; exact hs0.take 40
  have hll : (l0.take 40).length ≤ 40 := by simp; omega
  have hfew := few_any a1 c1 l0 w ⟨hc0, hcm⟩ hs0
  generalize l0.take 40 = l at *
  go_enter Try.func5, Try.ntmps5
  go_wp2_with fail
  refine hfew.mono ?_
  rintro e w1 ⟨rfl, hB1⟩
  clear hfew hs0 hwf hc0
  go_wp2_with fail
  refine (fabs_any a0 ha _).mono ?_
  rintro e w2 ⟨rfl, hb2⟩
  have hB2 := since_step hB1 hb2
  clear hb2 hB1
  go_wp2_with fail
  refine (bof_any a0 _ ha).mono ?_
  rintro e w3 ⟨⟨s, A3, n3, c3, rfl, hfr, hbig⟩, hb3⟩
  have hB3 := since_step hB2 hb3
  have hbig3 := hbig.abs
  have hn3 : n3 ≤ 64 := (hbig.len (k := 64)).2 (by unfold In64 at ha; simp; omega)
  clear hb3 hB2 hbig hfr
  go_wp2_with (first
    | (at_builtin; refine wpList_app rfl (.tmp 25) (.tmp 27) rfl EL rfl rfl (own_nil (w3.heap.size + 1) _ _) (m := 1) (news := ints .i64 [a0]) rfl (Sl.new1 _ _ _ _) (ints_one _ _) (by decide) (by decide) (by simp) ?_; intro A5 c5 w5 hown5 hg5 hb5; have hb35 : Below w3.heap.size w3 w5 := (since_alloc (since_alloc (Below.refl _ w3) _) _).trans (hb5.mono (Nat.le_succ _)); have Q5 := ((BB.new w3 false A3 n3 c3 30).alloc (.cells #[.int .i64 a0] 2)).farB hb5 (Nat.lt_succ_self _); have hz5 : w3.heap.size + 1 ≤ w5.heap.size := Q5.1)
    | (at_builtin; refine wpList_app rfl (.tmp 29) (.tmp 30) rfl EL rfl rfl hown5 (m := l.length) (news := ints .i64 l) (by simp [ints]) (hsl.below (since_step hB3 hb35)) (ints_one _ _) (by unfold maxLen; omega) (by omega) hz5 ?_; intro A6 c6 w6 hown6 hg6 hb6; have hb36 : Below w3.heap.size w3 w6 := hb35.trans (hb6.mono (Nat.le_succ _)); have Q6 := Q5.farB hb6 (Nat.lt_succ_self _))
    | fail)
  have hB6 := since_step hB3 hb36
  have X6 := hbig3.below hb36
  have R6 : Sl w6 A6 (ints .i64 (a0 :: l)) := by
    have := Sl.of_own hown6
    simpa [ints] using this
  have L6 := hsl.below hB6
  clear hown5 hown6 hg5 hg6 hb5 hb6 hb35 hb36 Q5 hbig3 hB3 hz5 hsl
  refine (fclip_any a0 a2 a3 _).mono ?_
  rintro e w7 ⟨rfl, hb7⟩
  have hB7 := since_step hB6 hb7
  have X7 := X6.below hb7
  have R7 := R6.below hb7
  have L7 := L6.below hb7
  have Q7 := Q6.below hb7
  obtain ⟨q0, q1, q2, q3, q4⟩ := id Q7
  have hlen : 1 + l.length = l.length + 1 := by omega
  have HLEN := Lib.hid hlen
  clear hb7 hB6 X6 R6 L6 Q6 hlen
  have tail : True := trivial
  have hcl : clipI a0 a2 a3 = if a2 < (if a3 < a0 then a3 else a0) then (if a3 < a0 then a3 else a0) else a2 := rfl
  rcases (show a3 < a2 ∨ (¬ a3 < a2 ∧ a0 < a2) ∨ (a3 = a2 ∧ a2 < a0) ∨ (a2 < a3 ∧ a3 < a0) ∨ (¬ a3 < a2 ∧ ¬ a0 < a2 ∧ ¬ a3 < a0) by omega) with g1 | ⟨g1, g2⟩ | ⟨he, g2⟩ | ⟨g1, g2⟩ | ⟨g1, g2, g3⟩
  all_goals
    first
      | (have hc : clipI a0 a2 a3 = a2 := by rw [hcl]; (repeat' split) <;> omega)
      | (have hc : clipI a0 a2 a3 = a3 := by rw [hcl]; (repeat' split) <;> omega)
      | (have hc : clipI a0 a2 a3 = a0 := by rw [hcl]; (repeat' split) <;> omega)
    rw [hc]
    try subst he
    clear hc hcl
    go_wp2_with fail
    refine (is_any (a0.natAbs : Int) false A3 n3 c3 _ (by omega) X7).mono ?_
    rintro e w8 ⟨rfl, hb8⟩
    have hB8 := since_step hB7 hb8
    have R8 := R7.below hb8
    have L8 := L7.below hb8
    go_wp2_with fail
    refine (fmost_any a0 a1 c1 l _ (by omega) L8).mono ?_
    rintro e w9 ⟨rfl, hb9⟩
    have hB9 := since_step hB8 hb9
    have R9 := R8.below hb9
    have L9 := L8.below hb9
    go_wp2_with fail
    try rw [HLEN.out]
    refine (rmost_any a0 A6 c6 l _ (by omega) R9).mono ?_
    rintro e w10 ⟨rfl, hb10⟩
    have hB10 := since_step hB9 hb10
    have R10 := R9.below hb10
    have L10 := L9.below hb10
    go_wp2_with fail
    refine (fleast_any a0 a1 c1 l _ (by omega) L10).mono ?_
    rintro e w11 ⟨rfl, hb11⟩
    have hB11 := since_step hB10 hb11
    have R11 := R10.below hb11
    go_wp2_with fail
    try rw [HLEN.out]
    refine (rleast_any a0 A6 c6 l _ (by omega) R11).mono ?_
    rintro e w12 ⟨rfl, hb12⟩
    have hB12 := since_step hB11 hb12
    go_wp2_with fail
    refine (lives02_any _).mono ?_
    rintro e w13 ⟨rfl, hb13⟩
    have hB13 := since_step hB12 hb13
    go_wp2_with fail
    go_ret
    refine ⟨?_, hB13⟩
    first
      | rfl
      | exact retB (by simp; omega)
end Go.Proofs.Ytdhlbjagmnmjnaa
