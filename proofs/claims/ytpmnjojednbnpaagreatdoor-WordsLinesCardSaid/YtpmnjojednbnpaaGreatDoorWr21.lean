import Derived.Test.YtpmnjojednbnpaaGreatDoorWr03
import Derived.Test.YtpmnjojednbnpaaGreatDoorWr20
section
namespace Go.Proofs.YtpmnjojednbnpaaGreatDoor
open Go.ChangeShapes Go.WideShapes Go.ChangeAt Go.RowKit
set_option linter.unusedVariables false
set_option linter.unusedSimpArgs false

theorem Chg.any {g g2 : Nat} {row : Option Nat} {w w' : World} (h : Chg g row w w') (hg : w.heap.size ≤ g) : Chg g2 row w w' :=
  ⟨h.os, h.tape, h.output, h.size, fun k hk _ hr => h.block k hk (by omega) hr⟩
structure Rt (W : Nat) (RW : Option Nat) (A : Option Addr) (c : Nat) (bs : List Nat) (w w' : World) : Prop where
  own : w'.ownsRow W 5 1 (.slice A (bs).length c) (bs).length (by8 (bs))
  chg : Chg w.heap.size RW w w'
  row : ob A bs c = RW ∨ ∃ r, ob A bs c = some r ∧ w.heap.size ≤ r
section
variable {W g : Nat} {RW : Option Nat} {A A2 : Option Addr} {c c2 : Nat} {bs bs2 : List Nat} {w w' w2 : World}
theorem Rt.refl (h : w.ownsRow W 5 1 (.slice A (bs).length c) (bs).length (by8 (bs))) : Rt W (ob A bs c) A c bs w w := ⟨h, Chg.refl _ _ _, .inl rfl⟩
theorem Rt.trans (h : Rt W RW A c bs w w') (k : Rt W (ob A bs c) A2 c2 bs2 w' w2) : Rt W RW A2 c2 bs2 w w2 :=
  ⟨k.own, h.chg.trans (k.chg.any (Nat.le_refl _)) h.row, by
    rcases k.row with e | ⟨r, e, hr⟩
    · rcases h.row with e1 | ⟨r, e1, hr⟩
      · exact .inl (e.trans e1)
      · exact .inr ⟨r, e.trans e1, hr⟩
    · exact .inr ⟨r, e, Nat.le_trans h.chg.size hr⟩⟩
theorem Rt.below (h : Rt W RW A c bs w w') (hb : Below w'.heap.size w' w2) : Rt W RW A c bs w w2 :=
  ⟨own_below h.own hb, h.chg.trans (Chg.of_below hb) h.row, h.row⟩
end
end Go.Proofs.YtpmnjojednbnpaaGreatDoor
end
section
namespace Go.Proofs.YtpmnjojednbnpaaGreatDoor
open Go.ChangeShapes Go.WideShapes Go.ChangeAt Go.RowKit
set_option linter.unusedVariables false
set_option linter.unusedSimpArgs false

set_option maxHeartbeats 4000000 in
set_option maxRecDepth 100000 in
theorem rsamen_self (A B : Option Addr) (ca cb : Nat) (l : List Int) (w : World) (hl : l.length ≤ 1000) (ha : Sl w A (ints .i64 l)) (hb : Sl w B (ints .i64 l)) :
    Calls Tryz.prog 45 #[.slice A l.length ca, .slice B l.length cb] w fun e w' => e = .returned (.bool true) ∧ Below w.heap.size w w' := by
  have hne : ((l.length : Int) != (l.length : Int)) = false := by simp
  have HA := Lib.hid (fun V (hV : Below w.heap.size w V) k (hk : k < l.length) => (ha.below hV).int hk)
  have HB := Lib.hid (fun V (hV : Below w.heap.size w V) k (hk : k < l.length) => (hb.below hV).int hk)
  clear ha hb
  go_enter Tryz.func45, Tryz.ntmps45
  go_wp2_with fail
  go_loopw [5] (fun iv wr => ∃ k : Nat, k ≤ l.length ∧ iv = .int .i64 (k : Int) ∧ Below w.heap.size w wr) (fun iv _ => l.length - (intOf iv).toNat)
  case atStart => exact ⟨0, by omega, rfl, Below.refl _ _⟩
  case round =>
    obtain ⟨k, hk, rfl, hBw⟩ := hrel
    by_cases hkl : k < l.length
    · have hk1 : (k : Int) < (l.length : Int) := by omega
      have hk0 : (0 : Int) ≤ (k : Int) := by omega
      obtain ⟨b1, o1, rfl, h1⟩ := HA.out wr hBw k hkl
      obtain ⟨b2, o2, rfl, h2⟩ := HB.out wr hBw k hkl
      obtain ⟨n, hn⟩ : ∃ n, l[k] = n := ⟨_, rfl⟩
      rw [hn] at h1 h2
      have hnn : (n != n) = false := by simp
      have HBw := Lib.hid hBw
      clear hn hBw
      go_upto_region 6 with fail
      go_quiet (fail)
      have hB2 := below_drewN HBw.out nq
      go_wp2_with fail
      go_roundw
      case rel => exact ⟨k + 1, by omega, by go_num, hB2⟩
      case measure => simp [intOf]; omega
    · obtain rfl : k = l.length := by omega
      go_wp2_with fail
      go_ret
      exact ⟨rfl, hBw⟩
set_option maxHeartbeats 8000000 in
set_option maxRecDepth 100000 in
theorem rsame34 (z0 z1 z2 z3 z4 z5 z6 z7 z8 z9 z10 z11 z12 : Int) (A B : Option Addr) (ca cb : Nat) (l : List Int) (w : World) (hl : l.length ≤ 1000) (ha : Sl w A (ints .i64 l)) (hb : Sl w B (ints .i64 l)) :
    Calls Tryz.prog 12 #[.agg #[.int .i64 z0, .int .i64 z1, .int .i64 z2, .int .i64 z3, .int .i64 z4, .int .i64 z5, .int .i64 z6, .int .i64 z7, .int .i64 z8, .int .i64 z9, .int .i64 z10, .int .i64 z11, .int .i64 z12, .slice A l.length ca], .agg #[.int .i64 z0, .int .i64 z1, .int .i64 z2, .int .i64 z3, .int .i64 z4, .int .i64 z5, .int .i64 z6, .int .i64 z7, .int .i64 z8, .int .i64 z9, .int .i64 z10, .int .i64 z11, .int .i64 z12, .slice B l.length cb]] w fun e w' => e = .returned (.bool true) ∧ Below w.heap.size w w' := by
  have hb0 := since_step (since_alloc (Below.refl _ w) (.cells #[.int .i64 z0, .int .i64 z1, .int .i64 z2, .int .i64 z3, .int .i64 z4, .int .i64 z5, .int .i64 z6, .int .i64 z7, .int .i64 z8, .int .i64 z9, .int .i64 z10, .int .i64 z11, .int .i64 z12, .slice A l.length ca] 26)) (since_alloc (Below.refl _ (w.alloc (.cells #[.int .i64 z0, .int .i64 z1, .int .i64 z2, .int .i64 z3, .int .i64 z4, .int .i64 z5, .int .i64 z6, .int .i64 z7, .int .i64 z8, .int .i64 z9, .int .i64 z10, .int .i64 z11, .int .i64 z12, .slice A l.length ca] 26))) (.cells #[.int .i64 z0, .int .i64 z1, .int .i64 z2, .int .i64 z3, .int .i64 z4, .int .i64 z5, .int .i64 z6, .int .i64 z7, .int .i64 z8, .int .i64 z9, .int .i64 z10, .int .i64 z11, .int .i64 z12, .slice B l.length cb] 26))
  have HSN := Lib.hid (rsamen_self A B ca cb l _ hl (ha.below hb0) (hb.below hb0))
  have HB0 := Lib.hid hb0
  clear hb0 ha hb
  go_enter Tryz.func12, Tryz.ntmps12
  go_wp2_with fail
  refine HSN.out.mono ?_
  rintro e v1 ⟨rfl, hb1⟩
  have hB1 := since_step HB0.out hb1
  go_wp2_with fail
  go_ret
  exact ⟨rfl, hB1⟩
end Go.Proofs.YtpmnjojednbnpaaGreatDoor
end
