/-
  Layer 14, first part: Check, Is, May, Room, place (laid by gen_memb.py).
-/
import Derived.Test.YtniapgcohihkhaaMbV
import Derived.Test.YtniapgcohihkhaaRowM
import Derived.Test.YtniapgcohihkhaaFix
import Derived.Test.YtniapgcohihkhaaBig4
namespace Go.Proofs.Ytniapgcohihkhaa
open Go.ChangeShapes Go.WideShapes Go.ChangeAt Go.RowKit
set_option linter.unusedVariables false
set_option linter.unusedSimpArgs false

def okM (v : Mb) : Prop := 1 ≤ v.id ∧ v.id ≤ 8 ∧ 0 ≤ v.room ∧ v.room ≤ 4611686018427387904 ∧ 0 ≤ v.phase ∧ v.phase ≤ 3 ∧ 0 ≤ v.til ∧ v.til ≤ 2097152
instance (v : Mb) : Decidable (okM v) := by unfold okM; infer_instance

set_option maxHeartbeats 4000000 in
set_option maxRecDepth 100000 in
theorem check_any (v : Mb) (w : World) :
    Calls Try.prog 10 #[v.val] w fun e w' => e = .returned (.int .i64 (if okM v then 0 else 2)) ∧ Below w.heap.size w w' := by
  have hB := since_alloc (Below.refl _ w) (.cells v.cells.toArray 24)
  obtain ⟨id, room, phase, til⟩ := v
  by_cases hok : okM ⟨id, room, phase, til⟩
  · have HE : Hid ((.int .i64 (if okM (⟨id, room, phase, til⟩ : Mb) then 0 else 2) : Value) = .int .i64 0) := Lib.hid (by simp [hok])
    unfold okM at hok
    simp only at hok
    obtain ⟨h1, h2, h3, h4, h5, h6, h7, h8⟩ := hok
    have n1 : ¬ id < 1 := by omega
    have n2 : ¬ 8 < id := by omega
    have n3 : ¬ room < 0 := by omega
    have n4 : ¬ 4611686018427387904 < room := by omega
    have n5 : ¬ phase < 0 := by omega
    have n6 : ¬ 3 < phase := by omega
    have n7 : ¬ til < 0 := by omega
    have n8 : ¬ 2097152 < til := by omega
    unfold Mb.val
    rw [HE.out]
    unfold Mb.cells at hB
    simp only at hB
    go_enter Try.func10, Try.ntmps10
    go_wp2
    go_ret
    exact ⟨rfl, hB⟩
  · have HE : Hid ((.int .i64 (if okM (⟨id, room, phase, til⟩ : Mb) then 0 else 2) : Value) = .int .i64 2) := Lib.hid (by simp [hok])
    unfold Mb.val
    rw [HE.out]
    unfold Mb.cells at hB
    unfold okM at hok
    simp only at hB hok
    by_cases b0 : id < 1
    · clear hok
      go_enter Try.func10, Try.ntmps10
      go_wp2
      go_ret
      exact ⟨rfl, hB⟩
    · skip
      by_cases b1 : 8 < id
      · clear hok
        go_enter Try.func10, Try.ntmps10
        go_wp2
        go_ret
        exact ⟨rfl, hB⟩
      · skip
        by_cases b2 : room < 0
        · clear hok
          go_enter Try.func10, Try.ntmps10
          go_wp2
          go_ret
          exact ⟨rfl, hB⟩
        · skip
          by_cases b3 : 4611686018427387904 < room
          · clear hok
            go_enter Try.func10, Try.ntmps10
            go_wp2
            go_ret
            exact ⟨rfl, hB⟩
          · skip
            by_cases b4 : phase < 0
            · clear hok
              go_enter Try.func10, Try.ntmps10
              go_wp2
              go_ret
              exact ⟨rfl, hB⟩
            · skip
              by_cases b5 : 3 < phase
              · clear hok
                go_enter Try.func10, Try.ntmps10
                go_wp2
                go_ret
                exact ⟨rfl, hB⟩
              · skip
                by_cases b6 : til < 0
                · clear hok
                  go_enter Try.func10, Try.ntmps10
                  go_wp2
                  go_ret
                  exact ⟨rfl, hB⟩
                · skip
                  by_cases b7 : 2097152 < til
                  · clear hok
                    go_enter Try.func10, Try.ntmps10
                    go_wp2
                    go_ret
                    exact ⟨rfl, hB⟩
                  · skip
                    exact absurd ⟨by omega, by omega, by omega, by omega, by omega, by omega, by omega, by omega⟩ hok

set_option maxHeartbeats 4000000 in
set_option maxRecDepth 100000 in
theorem mis_any (v : Mb) (w : World) :
    Calls Try.prog 11 #[v.val] w fun e w' => e = .returned (.bool (decide (okM v))) ∧ Below w.heap.size w w' := by
  have hB := since_alloc (Below.refl _ w) (.cells v.cells.toArray 24)
  obtain ⟨id, room, phase, til⟩ := v
  by_cases hok : okM ⟨id, room, phase, til⟩
  · have HE : Hid ((.bool (decide (okM (⟨id, room, phase, til⟩ : Mb))) : Value) = .bool true) := Lib.hid (by simp [hok])
    unfold okM at hok
    simp only at hok
    obtain ⟨h1, h2, h3, h4, h5, h6, h7, h8⟩ := hok
    have n1 : 0 < id := by omega
    have n2 : id < 9 := by omega
    have n6 : phase < 4 := by omega
    unfold Mb.val
    rw [HE.out]
    unfold Mb.cells at hB
    simp only at hB
    go_enter Try.func11, Try.ntmps11
    go_wp2
    go_ret
    exact ⟨rfl, hB⟩
  · have HE : Hid ((.bool (decide (okM (⟨id, room, phase, til⟩ : Mb))) : Value) = .bool false) := Lib.hid (by simp [hok])
    unfold Mb.val
    rw [HE.out]
    unfold Mb.cells at hB
    unfold okM at hok
    simp only at hB hok
    by_cases b0 : 0 < id
    rotate_left
    · clear hok
      go_enter Try.func11, Try.ntmps11
      go_wp2
      go_ret
      exact ⟨rfl, hB⟩
    by_cases b1 : id < 9
    rotate_left
    · clear hok
      go_enter Try.func11, Try.ntmps11
      go_wp2
      go_ret
      exact ⟨rfl, hB⟩
    by_cases b2 : 0 ≤ room
    rotate_left
    · clear hok
      go_enter Try.func11, Try.ntmps11
      go_wp2
      go_ret
      exact ⟨rfl, hB⟩
    by_cases b3 : room ≤ 4611686018427387904
    rotate_left
    · clear hok
      go_enter Try.func11, Try.ntmps11
      go_wp2
      go_ret
      exact ⟨rfl, hB⟩
    by_cases b4 : 0 ≤ phase
    rotate_left
    · clear hok
      go_enter Try.func11, Try.ntmps11
      go_wp2
      go_ret
      exact ⟨rfl, hB⟩
    by_cases b5 : phase < 4
    rotate_left
    · clear hok
      go_enter Try.func11, Try.ntmps11
      go_wp2
      go_ret
      exact ⟨rfl, hB⟩
    by_cases b6 : 0 ≤ til
    rotate_left
    · clear hok
      go_enter Try.func11, Try.ntmps11
      go_wp2
      go_ret
      exact ⟨rfl, hB⟩
    by_cases b7 : til ≤ 2097152
    rotate_left
    · clear hok
      go_enter Try.func11, Try.ntmps11
      go_wp2
      go_ret
      exact ⟨rfl, hB⟩
    exact absurd ⟨by omega, by omega, by omega, by omega, by omega, by omega, by omega, by omega⟩ hok

set_option maxHeartbeats 1000000 in
theorem may_any (v : Mb) (w : World) :
    Calls Try.prog 23 #[v.val] w fun e w' => e = .returned (.int .i64 (if v.phase = 0 then 0 else 15)) ∧ Below w.heap.size w w' := by
  have hB := since_alloc (Below.refl _ w) (.cells v.cells.toArray 24)
  obtain ⟨id, room, phase, til⟩ := v
  unfold Mb.val
  unfold Mb.cells at hB
  simp only at hB ⊢
  by_cases h : phase = 0
  · subst h
    go_enter Try.func23, Try.ntmps23
    go_wp2
    go_ret
    exact ⟨rfl, hB⟩
  · have HE : Hid ((if phase = 0 then (0 : Int) else 15) = 15) := Lib.hid (if_neg h)
    have hb : (phase != 0) = true := by simpa using h
    go_enter Try.func23, Try.ntmps23
    go_wp2
    go_ret
    exact ⟨rfl, hB⟩

theorem len64 {w : World} {s : Bool} {A : Option Addr} {n c : Nat} {z : Int} (h : BigAt w s A n c z) (hz : In64 z) : n ≤ 64 := by
  refine h.len.2 ?_
  rw [show (2 : Nat) ^ 64 = 18446744073709551616 from by decide]
  unfold In64 at hz
  omega
theorem len65 {w : World} {s : Bool} {A : Option Addr} {n c : Nat} {x y : Int} (h : BigAt w s A n c (x + y)) (hx : In64 x) (hy : In64 y) : n ≤ 65 := by
  refine h.len.2 ?_
  rw [show (2 : Nat) ^ 65 = 36893488147419103232 from by decide]
  unfold In64 at hx hy
  omega
theorem pair_sl (w : World) (o : Obj) (a b : Int) (t : TypeId) : Sl ((w.alloc o).alloc (.cells #[.int .i64 a, .int .i64 b] t)) (some ⟨w.heap.size + 1, 0, none⟩) (ints .i64 [a, b]) := Sl.new1 w o (ints .i64 [a, b]) t
/-- room for so much more -/
def roomE (cap used more : Int) : Int := if used < 0 ∨ more < 0 then 2 else if cap < used + more then 16 else 0
set_option maxHeartbeats 4000000 in
set_option maxRecDepth 100000 in
theorem room_any (v : Mb) (used more : Int) (w : World) (hc : In64 v.room) (hu : In64 used) (hm : In64 more) :
    Calls Try.prog 21 #[v.val, .int .i64 used, .int .i64 more] w fun e w' => e = .returned (.int .i64 (roomE v.room used more)) ∧ Below w.heap.size w w' := by
  have hB := since_alloc (Below.refl _ w) (.cells v.cells.toArray 24)
  have hV := Mb.Bx.new w v
  obtain ⟨id, room, phase, til⟩ := v
  unfold Mb.val
  unfold Mb.cells at hB hV
  simp only at hB hc hV ⊢
  by_cases h1 : used < 0
  · have HE : Hid (roomE room used more = 2) := Lib.hid (if_pos (.inl h1))
    go_enter Try.func21, Try.ntmps21
    go_wp2
    go_ret
    exact ⟨retI HE.out.symm, hB⟩
  · by_cases h2 : more < 0
    · have HE : Hid (roomE room used more = 2) := Lib.hid (if_pos (.inr h2))
      go_enter Try.func21, Try.ntmps21
      go_wp2
      go_ret
      exact ⟨retI HE.out.symm, hB⟩
    · have hE0 : roomE room used more = if room < used + more then 16 else 0 := if_neg (by omega)
      have HS := Lib.hid (fun W A (h : Sl W A (ints .i64 [used, more])) => fsum_any A 2 [used, more] W (by simp) (by intro x hx; simp at hx; rcases hx with rfl | rfl <;> assumption) h)
      have hsm : [used, more].sum = used + more := by simp
      rw [hsm] at HS
      have HS : Hid (∀ W A, Sl W A (ints .i64 [used, more]) → Calls Try.prog 43 #[.slice A 2 2] W fun e w' => e = .returned (.tuple #[.int .i64 (fV (used + more)), .int .i64 (fE (used + more))]) ∧ Below W.heap.size W w') := HS
      by_cases h3 : In64 (used + more)
      · have hv : fV (used + more) = used + more := if_pos h3
        have he : fE (used + more) = 0 := if_pos h3
        rw [hv, he] at HS
        by_cases h4 : room < used + more
        · have HE : Hid (roomE room used more = 16) := Lib.hid (by rw [hE0, if_pos h4])
          clear hE0 hsm hv he h3 hu hm hc
          go_enter Try.func21, Try.ntmps21
          go_wp2_with fail
          refine (HS.out _ _ (pair_sl w _ used more _)).mono ?_
          rintro e w1 ⟨rfl, hb1⟩
          have hB1 := since_step (since_alloc hB _) hb1
          obtain ⟨g0, g1, g2, g3⟩ := ((hV.below ((Below.refl _ _).alloc (Nat.le_refl _) _)).below hb1).got
          go_wp2_with fail
          go_ret
          exact ⟨retI HE.out.symm, hB1⟩
        · have HE : Hid (roomE room used more = 0) := Lib.hid (by rw [hE0, if_neg h4])
          clear hE0 hsm hv he h3 hu hm hc
          go_enter Try.func21, Try.ntmps21
          go_wp2_with fail
          refine (HS.out _ _ (pair_sl w _ used more _)).mono ?_
          rintro e w1 ⟨rfl, hb1⟩
          have hB1 := since_step (since_alloc hB _) hb1
          obtain ⟨g0, g1, g2, g3⟩ := ((hV.below ((Below.refl _ _).alloc (Nat.le_refl _) _)).below hb1).got
          go_wp2_with fail
          go_ret
          exact ⟨retI HE.out.symm, hB1⟩
      · have hv : fV (used + more) = 0 := if_neg h3
        have he : fE (used + more) = 7 := if_neg h3
        rw [hv, he] at HS
        have HE : Hid (roomE room used more = 16) := Lib.hid (by unfold In64 at *; rw [hE0, if_pos (by omega)])
        clear hE0 hsm hv he h3 hu hm hc
        go_enter Try.func21, Try.ntmps21
        go_wp2_with fail
        refine (HS.out _ _ (pair_sl w _ used more _)).mono ?_
        rintro e w1 ⟨rfl, hb1⟩
        have hB1 := since_step (since_alloc hB _) hb1
        go_wp2_with fail
        go_ret
        exact ⟨retI HE.out.symm, hB1⟩

set_option maxHeartbeats 4000000 in
theorem rroom_any (cap used more : Int) (w : World) (hc : In64 cap) (hu : In64 used) (hm : In64 more) :
    Calls Try.prog 22 #[.int .i64 cap, .int .i64 used, .int .i64 more] w fun e w' => e = .returned (.int .i64 (roomE cap used more)) ∧ Below w.heap.size w w' := by
  by_cases h1 : used < 0
  · have HE : Hid (roomE cap used more = 2) := Lib.hid (if_pos (.inl h1))
    go_enter Try.func22, Try.ntmps22
    go_wp2
    go_ret
    exact ⟨retI HE.out.symm, Below.refl _ _⟩
  · by_cases h2 : more < 0
    · have HE : Hid (roomE cap used more = 2) := Lib.hid (if_pos (.inr h2))
      go_enter Try.func22, Try.ntmps22
      go_wp2
      go_ret
      exact ⟨retI HE.out.symm, Below.refl _ _⟩
    · have hE0 : roomE cap used more = if cap < used + more then 16 else 0 := if_neg (by omega)
      have HO := Lib.hid (fun x (hx : In64 x) W => bof_any x W hx)
      have HU := Lib.hid hu
      have HM := Lib.hid hm
      have HC := Lib.hid hc
      obtain ⟨r, hr⟩ : ∃ r, cmpZ (used + more) cap = r := ⟨_, rfl⟩
      have HR := Lib.hid hr
      have hr3 : (r = 1 ∧ cap < used + more) ∨ (r ≤ 0 ∧ ¬ cap < used + more) := by
        rw [← hr]
        unfold cmpZ
        split
        · right; omega
        · split
          · right; omega
          · left; omega
      rcases hr3 with ⟨rfl, h4⟩ | ⟨h5, h4⟩
      · have HE : Hid (roomE cap used more = 16) := Lib.hid (by rw [hE0, if_pos h4])
        clear hE0 hu hm hc hr h4
        go_enter Try.func22, Try.ntmps22
        go_wp2_with fail
        refine (HO.out used HU.out _).mono ?_
        rintro e w1 ⟨⟨s1, A1, n1, c1, rfl, hf1, X1⟩, hb1⟩
        have L1 : n1 ≤ 64 := len64 X1 HU.out
        go_wp2_with fail
        refine (HO.out more HM.out _).mono ?_
        rintro e w2 ⟨⟨s2, A2, n2, c2, rfl, hf2, X2⟩, hb2⟩
        have L2 : n2 ≤ 64 := len64 X2 HM.out
        have X1 := X1.below hb2
        have hB2 := since_step hb1 hb2
        clear hb1 hb2
        go_wp2_with fail
        refine (badd' (by omega) (by omega) X1 X2).mono ?_
        rintro e w3 ⟨⟨s3, A3, n3, c3, rfl, hf3, X3⟩, hb3⟩
        have L3 : n3 ≤ 65 := len65 X3 HU.out HM.out
        have hB3 := since_step hB2 hb3
        clear hb3 X1 X2
        go_wp2_with fail
        refine (HO.out cap HC.out _).mono ?_
        rintro e w4 ⟨⟨s4, A4, n4, c4, rfl, hf4, X4⟩, hb4⟩
        have L4 : n4 ≤ 64 := len64 X4 HC.out
        have X3 := X3.below hb4
        have hB4 := since_step hB3 hb4
        clear hb4
        go_wp2_with fail
        refine (bcmp_any _ _ _ _ _ _ _ _ _ _ _ (by omega) (by omega) X3 X4).mono ?_
        rintro e w5 ⟨rfl, hb5⟩
        have hB5 := since_step hB4 hb5
        rw [HR.out]
        go_wp2_with fail
        go_ret
        exact ⟨retI HE.out.symm, hB5⟩
      · have hr0 : ¬ 0 < r := by omega
        have HE : Hid (roomE cap used more = 0) := Lib.hid (by rw [hE0, if_neg h4])
        clear hE0 hu hm hc hr h4
        go_enter Try.func22, Try.ntmps22
        go_wp2_with fail
        refine (HO.out used HU.out _).mono ?_
        rintro e w1 ⟨⟨s1, A1, n1, c1, rfl, hf1, X1⟩, hb1⟩
        have L1 : n1 ≤ 64 := len64 X1 HU.out
        go_wp2_with fail
        refine (HO.out more HM.out _).mono ?_
        rintro e w2 ⟨⟨s2, A2, n2, c2, rfl, hf2, X2⟩, hb2⟩
        have L2 : n2 ≤ 64 := len64 X2 HM.out
        have X1 := X1.below hb2
        have hB2 := since_step hb1 hb2
        clear hb1 hb2
        go_wp2_with fail
        refine (badd' (by omega) (by omega) X1 X2).mono ?_
        rintro e w3 ⟨⟨s3, A3, n3, c3, rfl, hf3, X3⟩, hb3⟩
        have L3 : n3 ≤ 65 := len65 X3 HU.out HM.out
        have hB3 := since_step hB2 hb3
        clear hb3 X1 X2
        go_wp2_with fail
        refine (HO.out cap HC.out _).mono ?_
        rintro e w4 ⟨⟨s4, A4, n4, c4, rfl, hf4, X4⟩, hb4⟩
        have L4 : n4 ≤ 64 := len64 X4 HC.out
        have X3 := X3.below hb4
        have hB4 := since_step hB3 hb4
        clear hb4
        go_wp2_with fail
        refine (bcmp_any _ _ _ _ _ _ _ _ _ _ _ (by omega) (by omega) X3 X4).mono ?_
        rintro e w5 ⟨rfl, hb5⟩
        have hB5 := since_step hB4 hb5
        rw [HR.out]
        go_wp2_with fail
        go_ret
        exact ⟨retI HE.out.symm, hB5⟩
end Go.Proofs.Ytniapgcohihkhaa
