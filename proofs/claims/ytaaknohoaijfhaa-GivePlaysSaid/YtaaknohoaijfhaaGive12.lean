/-
  The walks of layer 23, twelfth part: Find, Of, of both.
-/
import Derived.Test.YtaaknohoaijfhaaGive10
import Derived.Deep.QuietTactic
import Derived.BigQuiet
import Derived.IntWalk
namespace Go.Proofs.Ytaaknohoaijfhaa
open Go.ChangeShapes Go.WideShapes Go.ChangeAt Go.RowKit
set_option linter.unusedVariables false
set_option linter.unusedSimpArgs false

def gz : Gv := ⟨0, 0, 0, 0, 0, 0, 0, 0, 0, 0, 0⟩
def gF (l : List Gv) (id : Int) : Gv := if gAt l id = -1 then gz else l.getD (gAt l id).toNat gz
def findV (l : List Gv) (id : Int) : Value := .tuple #[(gF l id).val, .bool (decide (gAt l id ≠ -1))]
theorem findV_none {l : List Gv} {id : Int} (h : gAt l id = -1) : findV l id = .tuple #[gz.val, .bool false] := by
  unfold findV gF; rw [h]; rfl
theorem findV_some {l : List Gv} {id : Int} {k : Nat} (hk : k < l.length) (h : gAt l id = k) : findV l id = .tuple #[l[k].val, .bool true] := by
  unfold findV gF
  rw [h, if_neg (by omega)]
  have : decide ((k : Int) ≠ -1) = true := by rw [decide_eq_true_eq]; omega
  rw [this]
  simp [List.getD, hk]

set_option maxHeartbeats 1000000 in
theorem find_any (A : Option Addr) (cap : Nat) (l : List Gv) (id : Int) (w : World) (hl : l.length ≤ 1000000) (hs : Sl w A (gcells l)) :
    Calls Try.prog 28 #[.slice A l.length cap, .int .i64 id] w fun e w' => e = .returned (findV l id) ∧ Below w.heap.size w w' := by
  have hcs := @cell_set
  rcases gAt_cases l id with ⟨h0, hno⟩ | ⟨k, hk, h0, hid, hno⟩
  · have H0 := Lib.hid h0
    have HV := Lib.hid (findV_none h0)
    clear h0 hno
    go_enter Try.func28, Try.ntmps28
    go_wp2_with fail
    refine (place_any A cap l id _ hl (hs.alloc _)).mono ?_
    rintro e w1 ⟨rfl, hb1⟩
    rw [H0.out]
    have hB1 := since_step (since_alloc (Below.refl _ w) _) hb1
    obtain ⟨lb, cb⟩ := (Bk.new w gz.cells.toArray 43).below hb1
    have q0 := cb 0
    have q1 := cb 1
    have q2 := cb 2
    have q3 := cb 3
    have q4 := cb 4
    have q5 := cb 5
    have q6 := cb 6
    have q7 := cb 7
    have q8 := cb 8
    have q9 := cb 9
    have q10 := cb 10
    simp [Gv.cells, gz] at q0 q1 q2 q3 q4 q5 q6 q7 q8 q9 q10
    clear cb
    have hfz : ∀ i, w1.frozen? ⟨w.heap.size, i, none⟩ = false := fun i => (hb1.frozen (p := ⟨w.heap.size, i, none⟩) (by simp)).trans (by simp)
    clear hb1
    go_wp2_with fail
    refine bodyPost_ret (v := .tuple #[gz.val, .bool false]) ?_ rfl ?_
    · simp [results, Try.results28, go_sem, cell_set, gz, Gv.val, q0, q1, q2, q3, q4, q5, q6, q7, q8, q9, q10]
    · refine ⟨by rw [HV.out], ?_⟩
      repeat' (first | with_reducible exact hB1 | with_reducible refine Below.setCell ?_ ?_ _)
      all_goals first | (simp; done) | (simp; omega)
  · have H0 := Lib.hid h0
    have HV := Lib.hid (findV_some hk h0)
    clear h0 hno
    go_enter Try.func28, Try.ntmps28
    go_wp2_with fail
    refine (place_any A cap l id _ hl (hs.alloc _)).mono ?_
    rintro e w1 ⟨rfl, hb1⟩
    rw [H0.out]
    have hs1 := (hs.alloc _).below hb1
    have hB1 := since_step (since_alloc (Below.refl _ w) _) hb1
    obtain ⟨lb, cb⟩ := (Bk.new w gz.cells.toArray 43).below hb1
    have q0 := cb 0
    have q1 := cb 1
    have q2 := cb 2
    have q3 := cb 3
    have q4 := cb 4
    have q5 := cb 5
    have q6 := cb 6
    have q7 := cb 7
    have q8 := cb 8
    have q9 := cb 9
    have q10 := cb 10
    simp [Gv.cells, gz] at q0 q1 q2 q3 q4 q5 q6 q7 q8 q9 q10
    clear cb
    have hfz : ∀ i, w1.frozen? ⟨w.heap.size, i, none⟩ = false := fun i => (hb1.frozen (p := ⟨w.heap.size, i, none⟩) (by simp)).trans (by simp)
    clear hb1
    obtain ⟨b, o, rfl, hbw, hg⟩ := hs1.give hk
    obtain ⟨b', o', e', hbw', _⟩ := hs.give hk
    injection e' with e'
    injection e' with e1 e2 e3
    subst e1; subst e2
    generalize l[k] = g at *
    obtain ⟨gid, fa, fc, ta, tc, inst, qty, price, grp, gday, st⟩ := g
    obtain ⟨g0, g1, g2, g3, g4, g5, g6, g7, g8, g9, g10⟩ := hg
    dsimp only at g0 g1 g2 g3 g4 g5 g6 g7 g8 g9 g10
    have hne : b ≠ w.heap.size := by omega
    go_wp2_with fail
    refine bodyPost_ret (v := .tuple #[Gv.val ⟨gid, fa, fc, ta, tc, inst, qty, price, grp, gday, st⟩, .bool true]) ?_ rfl ?_
    · simp [results, Try.results28, go_sem, cell_set, Gv.val, q0, q1, q2, q3, q4, q5, q6, q7, q8, q9, q10]
    · refine ⟨by rw [HV.out], ?_⟩
      repeat' (first | with_reducible exact hB1 | with_reducible refine Below.setCell ?_ ?_ _)
      all_goals first | (simp; done) | (simp; omega)

set_option maxHeartbeats 1000000 in
theorem rfind_any (A : Option Addr) (cap : Nat) (l : List Gv) (id : Int) (w : World) (hl : l.length ≤ 1000000) (hs : Sl w A (gcells l)) :
    Calls Try.prog 29 #[.slice A l.length cap, .int .i64 id] w fun e w' => e = .returned (findV l id) ∧ Below w.heap.size w w' := by
  have hcs := @cell_set
  go_enter Try.func29, Try.ntmps29
  go_wp2
  go_loopw [6] (fun i wr => ∃ k : Nat, k ≤ l.length ∧ i = .int .i64 k ∧ (∀ j, (hj : j < l.length) → j < k → (l[j].id == id) = false) ∧ Below w.heap.size w wr ∧ GAt wr w.heap.size 0 gz ∧ ∀ i, wr.frozen? ⟨w.heap.size, i, none⟩ = false) (fun i _ => l.length - (intOf i).toNat)
  case atStart => exact ⟨0, by omega, rfl, fun j hj h => absurd h (by omega), since_alloc (Below.refl _ _) _, by simp [GAt, gz], fun i => by simp⟩
  case round =>
    obtain ⟨k, hk, rfl, hno, hB, hq0, hfz⟩ := hrel
    have HQ := Lib.hid hq0
    obtain ⟨q0, q1, q2, q3, q4, q5, q6, q7, q8, q9, q10⟩ := hq0
    simp only [Nat.zero_add, gz] at q0 q1 q2 q3 q4 q5 q6 q7 q8 q9 q10
    by_cases hlt : k < l.length
    · obtain ⟨b, o, rfl, hbw, hg⟩ := hs.give hlt
      have hg := hg.keep (w' := wr) fun i => hB.cell (p := ⟨b, i, none⟩) hbw
      have hbr : b < wr.heap.size := Nat.lt_of_lt_of_le hbw hB.size
      cases hq : (l[k].id == id) with
      | true =>
        have HV := Lib.hid (findV_some hlt (gAt_some hlt (fun j hj => hno j (by omega) hj) hq))
        clear hno
        generalize l[k] = g at *
        obtain ⟨gid, fa, fc, ta, tc, inst, qty, price, grp, gday, st⟩ := g
        obtain ⟨g0, g1, g2, g3, g4, g5, g6, g7, g8, g9, g10⟩ := hg
        dsimp only at g0 g1 g2 g3 g4 g5 g6 g7 g8 g9 g10 hq
        have hne : b ≠ w.heap.size := by omega
        simp only [beq_iff_eq] at hq
        subst hq
        go_wp2_with fail
        refine bodyPost_ret (v := .tuple #[Gv.val ⟨gid, fa, fc, ta, tc, inst, qty, price, grp, gday, st⟩, .bool true]) ?_ rfl ?_
        · simp [results, Try.results29, go_sem, cell_set, Gv.val, q0, q1, q2, q3, q4, q5, q6, q7, q8, q9, q10]
        · refine ⟨by rw [HV.out], ?_⟩
          repeat' (first | with_reducible exact hB | with_reducible refine Below.setCell ?_ ?_ _)
          all_goals first | (simp; done) | (simp; omega)
      | false =>
        obtain ⟨g0, g1, g2, g3, g4, g5, g6, g7, g8, g9, g10⟩ := hg
        go_wp2_with fail
        go_roundw
        case rel =>
          refine ⟨k + 1, by omega, by go_num, fun j hj hjk => ?_, hB, HQ.out, hfz⟩
          rcases Nat.lt_or_ge j k with h | h
          · exact hno j hj h
          · obtain rfl : j = k := by omega
            exact hq
        case measure => simp [intOf]; omega
    · have HV := Lib.hid (findV_none (gAt_none fun j hj => hno j hj (by omega)))
      go_wp2_with fail
      refine bodyPost_ret (v := .tuple #[gz.val, .bool false]) ?_ rfl ?_
      · simp [results, Try.results29, go_sem, cell_set, gz, Gv.val, q0, q1, q2, q3, q4, q5, q6, q7, q8, q9, q10]
      · refine ⟨by rw [HV.out], ?_⟩
        repeat' (first | with_reducible exact hB | with_reducible refine Below.setCell ?_ ?_ _)
        all_goals first | (simp; done) | (simp; omega)

/-- whether a give-up is a unit's -/
def ofB (ua uc : Int) (g : Gv) : Bool := (g.fa == ua && g.fc == uc) || (g.ta == ua && g.tc == uc)

set_option maxHeartbeats 2000000 in
theorem isOf_any (g : Gv) (c : Nat) (ua uc : Int) (w : World) (hc : w.cell? ⟨c, 0, none⟩ = some (.int .i64 ua)) (hc1 : w.cell? ⟨c, 1, none⟩ = some (.int .i64 uc)) :
    Calls Try.prog 50 #[g.val, .pointer (some ⟨c, 0, none⟩)] w fun e w' => e = .returned (.bool (ofB ua uc g)) ∧ Below w.heap.size w w' := by
  have hlt := World.block_lt_of_cell? _ _ hc
  have hdef : ofB ua uc g = ((g.fa == ua && g.fc == uc) || (g.ta == ua && g.tc == uc)) := rfl
  obtain ⟨gid, fa, fc, ta, tc, inst, qty, price, grp, gday, st⟩ := g
  dsimp only at hdef
  unfold Gv.val
  cases h1 : (fa == ua) <;> cases h2 : (fc == uc) <;> cases h3 : (ta == ua) <;> cases h4 : (tc == uc)
  all_goals
    rw [h1, h2, h3, h4] at hdef
    have HD := Lib.hid hdef
    clear hdef
    go_enter Try.func50, Try.ntmps50
    go_wp2
    go_ret
    refine ⟨by rw [HD.out]; rfl, ?_⟩
    repeat' (first | with_reducible exact Below.refl _ _ | with_reducible refine Below.setCell ?_ ?_ _ | with_reducible refine Below.alloc ?_ ?_ _)
    all_goals first | (simp; done) | (simp; omega)
end Go.Proofs.Ytaaknohoaijfhaa
