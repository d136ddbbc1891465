/-
  WideTexts: the walk.
-/
import Derived.Test.YtdhlbjagmnmjnaaDoorW12
namespace Go.Proofs.YtdhlbjagmnmjnaaDoor
open Go.ChangeShapes Go.WideShapes Go.ChangeAt Go.RowKit
set_option linter.unusedVariables false
set_option linter.unusedSimpArgs false

theorem str_same {a b : ByteArray} (h : a.data.toList = b.data.toList) : a = b := by
  obtain ⟨a⟩ := a
  obtain ⟨b⟩ := b
  have : a = b := Array.toList_inj.1 h
  rw [this]

set_option maxRecDepth 100000 in
set_option maxHeartbeats 4000000 in
theorem walk_WideTexts (a0 : Array Value) (w : World) (hT : Lib.TabBelow Tryd.prog w.heap.size w "internal/strconv.uint64pow10" .u64 Lib.pow10Tab) (w0 : Rd w (.cat (.int .i64) (.cat (.int .u64) .nil)) a0.toList) :
    Calls Tryd.prog 8 #[.agg a0] w fun e w' => e = .returned (.bool true) ∧ Below w.heap.size w w' := by
  obtain ⟨x, hx, rfl⟩ := rd_wide w0
  clear w0
  have HT := Lib.hid (fun w ht => text_any x hx w ht)
  have HB := Lib.hid (fun w => big_any x hx w)
  have HD := Lib.hid (fun s A n c w hz => digits_any x hx s A n c w hz)
  have P1 := T2.new w (hiN x) (loN x) 24
  have hB := since_alloc (Below.refl _ w) (.cells #[.int .i64 (hiN x), .int .u64 (loN x)] 24)
  go_enter Tryd.func8, Tryd.ntmps8
  go_upto_region 1 with fail
  generalize w.alloc (.cells #[.int .i64 (hiN x), .int .u64 (loN x)] 24) = W1 at *
  have sO : ∀ V, Below W1.heap.size W1 V → (Below W1.heap.size W1 V ∧ V.cell? ⟨w.heap.size, 0, none⟩ = some (.int .i64 (hiN x)) ∧ V.cell? ⟨w.heap.size, 1, none⟩ = some (.int .u64 (loN x))) := fun V h => ⟨h, (P1.below h).2.1, (P1.below h).2.2.1⟩
  have SO := Lib.hid sO
  have HTT := Lib.hid (show ∀ V, Below W1.heap.size W1 V → Lib.TabBelow Tryd.prog V.heap.size V "internal/strconv.uint64pow10" .u64 Lib.pow10Tab from fun V h w' h' => hT w' (since_step (since_step hB h) h'))
  clear sO P1 hT hx
  go_region_held3 (fun V => Below W1.heap.size W1 V ∧ V.cell? ⟨w.heap.size, 0, none⟩ = some (.int .i64 (hiN x)) ∧ V.cell? ⟨w.heap.size, 1, none⟩ = some (.int .u64 (loN x)))
    (first | exact SO.out _ (by assumption) | exact SO.out _ (Below.refl _ _).drew | assumption)
    (first
      | (go_at_call 31; go_split_ands; refine (HT.out _ (HTT.out _ (by assumption))).mono ?_; rintro e w2 ⟨⟨r1, rfl, hr1⟩, hb2⟩; have hbW2 := since_step (by assumption) hb2)
      | (go_at_call 11; go_split_ands; refine (HB.out _).mono ?_; rintro e w3 ⟨⟨s3, A3, n3, c3, rfl, hf3, X3⟩, hb3⟩; have hbW3 := since_step (by assumption) hb3)
      | (go_at_call 32; go_split_ands; refine (HD.out _ _ _ _ _ X3).mono ?_; rintro e w4 ⟨⟨r2, rfl, hr2⟩, hb4⟩; have hbW4 := since_step (by assumption) hb4; obtain rfl : r1 = r2 := str_same (hr1.trans hr2.symm))
      | (go_at_call 15; go_split_ands; refine (lives01_any _).mono ?_; rintro e w5 ⟨rfl, hb5⟩; have hbW5 := since_step (by assumption) hb5))
  all_goals
    go_wp2
    go_ret
    go_split_ands
    exact ⟨rfl, since_step hB (by assumption)⟩
end Go.Proofs.YtdhlbjagmnmjnaaDoor
