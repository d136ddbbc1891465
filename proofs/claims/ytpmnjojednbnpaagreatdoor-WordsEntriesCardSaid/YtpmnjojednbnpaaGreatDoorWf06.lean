import Derived.Lib.OthersKept
import Derived.StillTailTactics
import Derived.Test.YtpmnjojednbnpaaGreatDoorWf04
import Derived.Test.YtpmnjojednbnpaaGreatDoorWf05
set_option maxHeartbeats 16000000
set_option maxRecDepth 100000
set_option linter.unusedVariables false
set_option linter.unusedSimpArgs false
namespace Go.Proofs.YtpmnjojednbnpaaGreatDoor
open Go.ChangeShapes Go.WideShapes Go.ChangeAt Go.RowKit
section
theorem cfld_any (op : Int) (w : World) : Calls Tryz.prog 28 #[.int .i64 op] w fun e w' => e = .returned (.string (bs8 (fldL op))) ∧ Below w.heap.size w w' := by
 by_cases hr : 1 ≤ op ∧ op ≤ 31
 ·have h2 : op = 1 ∨ op = 2 ∨ op = 3 ∨ op = 4 ∨ op = 5 ∨ op = 6 ∨ op = 7 ∨ op = 8 ∨ op = 9 ∨ op = 10 ∨ op = 11 ∨ op = 12 ∨ op = 13 ∨ op = 14 ∨ op = 15 ∨ op = 16 ∨ op = 17 ∨ op = 18 ∨ op = 19 ∨ op = 20 ∨ op = 21 ∨ op = 22 ∨ op = 23 ∨ op = 24 ∨ op = 25 ∨ op = 26 ∨ op = 27 ∨ op = 28 ∨ op = 29 ∨ op = 30 ∨ op = 31 := by omega
  clear hr
  rcases h2 with rfl | rfl | rfl | rfl | rfl | rfl | rfl | rfl | rfl | rfl | rfl | rfl | rfl | rfl | rfl | rfl | rfl | rfl | rfl | rfl | rfl | rfl | rfl | rfl | rfl | rfl | rfl | rfl | rfl | rfl | rfl
  all_goals
   go_enter Tryz.func28, Tryz.ntmps28;go_wp2_with fail;go_ret;exact ⟨rfl, Below.refl _ _⟩
 ·have hf : fldL op = [] := by
   unfold fldL
   repeat rw [if_neg (by omega)]
  rw [hf];have q1 : (op == 1) = false := by rw [beq_eq_false_iff_ne]; omega
  have q2 : (op == 2) = false := by rw [beq_eq_false_iff_ne]; omega
  have q3 : (op == 3) = false := by rw [beq_eq_false_iff_ne]; omega
  have q4 : (op == 4) = false := by rw [beq_eq_false_iff_ne]; omega
  have q5 : (op == 5) = false := by rw [beq_eq_false_iff_ne]; omega
  have q6 : (op == 6) = false := by rw [beq_eq_false_iff_ne]; omega
  have q7 : (op == 7) = false := by rw [beq_eq_false_iff_ne]; omega
  have q8 : (op == 8) = false := by rw [beq_eq_false_iff_ne]; omega
  have q9 : (op == 9) = false := by rw [beq_eq_false_iff_ne]; omega
  have q10 : (op == 10) = false := by rw [beq_eq_false_iff_ne]; omega
  have q11 : (op == 11) = false := by rw [beq_eq_false_iff_ne]; omega
  have q12 : (op == 12) = false := by rw [beq_eq_false_iff_ne]; omega
  have q13 : (op == 13) = false := by rw [beq_eq_false_iff_ne]; omega
  have q14 : (op == 14) = false := by rw [beq_eq_false_iff_ne]; omega
  have q15 : (op == 15) = false := by rw [beq_eq_false_iff_ne]; omega
  have q16 : (op == 16) = false := by rw [beq_eq_false_iff_ne]; omega
  have q17 : (op == 17) = false := by rw [beq_eq_false_iff_ne]; omega
  have q18 : (op == 18) = false := by rw [beq_eq_false_iff_ne]; omega
  have q19 : (op == 19) = false := by rw [beq_eq_false_iff_ne]; omega
  have q20 : (op == 20) = false := by rw [beq_eq_false_iff_ne]; omega
  have q21 : (op == 21) = false := by rw [beq_eq_false_iff_ne]; omega
  have q22 : (op == 22) = false := by rw [beq_eq_false_iff_ne]; omega
  have q23 : (op == 23) = false := by rw [beq_eq_false_iff_ne]; omega
  have q24 : (op == 24) = false := by rw [beq_eq_false_iff_ne]; omega
  have q25 : (op == 25) = false := by rw [beq_eq_false_iff_ne]; omega
  have q26 : (op == 26) = false := by rw [beq_eq_false_iff_ne]; omega
  have q27 : (op == 27) = false := by rw [beq_eq_false_iff_ne]; omega
  have q28 : (op == 28) = false := by rw [beq_eq_false_iff_ne]; omega
  have q29 : (op == 29) = false := by rw [beq_eq_false_iff_ne]; omega
  have q30 : (op == 30) = false := by rw [beq_eq_false_iff_ne]; omega
  have q31 : (op == 31) = false := by rw [beq_eq_false_iff_ne]; omega
  have r1 : (decide (9 ≤ op) && decide (op ≤ 11)) = false := by simp; omega
  have r2 : (decide (26 ≤ op) && decide (op ≤ 29)) = false := by simp; omega
  by_cases h9 : op < 1
  ·have x1 : decide (9 ≤ op) = false := by simp; omega
   have x2 : decide (26 ≤ op) = false := by simp; omega
   have y1 : ¬ (9 ≤ op) := by omega
   have y2 : ¬ (26 ≤ op) := by omega
   clear hf hr r1 r2 h9;go_enter Tryz.func28, Tryz.ntmps28;go_wp2_with fail;go_ret;exact ⟨rfl, Below.refl _ _⟩
  ·have x1 : decide (9 ≤ op) = true := by simp; omega
   have x2 : decide (26 ≤ op) = true := by simp; omega
   have x3 : decide (op ≤ 11) = false := by simp; omega
   have x4 : decide (op ≤ 29) = false := by simp; omega
   have y1 : 9 ≤ op := by omega
   have y2 : 26 ≤ op := by omega
   have y3 : ¬ op ≤ 11 := by omega
   have y4 : ¬ op ≤ 29 := by omega
   clear hf hr r1 r2 h9;go_enter Tryz.func28, Tryz.ntmps28;go_wp2_with fail;go_ret;exact ⟨rfl, Below.refl _ _⟩
theorem rfld_any (op : Int) (w : World) : Calls Tryz.prog 36 #[.int .i64 op] w fun e w' => e = .returned (.string (bs8 (fldL op))) ∧ Below w.heap.size w w' := by
 by_cases hr : 1 ≤ op ∧ op ≤ 31
 ·have h2 : op = 1 ∨ op = 2 ∨ op = 3 ∨ op = 4 ∨ op = 5 ∨ op = 6 ∨ op = 7 ∨ op = 8 ∨ op = 9 ∨ op = 10 ∨ op = 11 ∨ op = 12 ∨ op = 13 ∨ op = 14 ∨ op = 15 ∨ op = 16 ∨ op = 17 ∨ op = 18 ∨ op = 19 ∨ op = 20 ∨ op = 21 ∨ op = 22 ∨ op = 23 ∨ op = 24 ∨ op = 25 ∨ op = 26 ∨ op = 27 ∨ op = 28 ∨ op = 29 ∨ op = 30 ∨ op = 31 := by omega
  clear hr
  rcases h2 with rfl | rfl | rfl | rfl | rfl | rfl | rfl | rfl | rfl | rfl | rfl | rfl | rfl | rfl | rfl | rfl | rfl | rfl | rfl | rfl | rfl | rfl | rfl | rfl | rfl | rfl | rfl | rfl | rfl | rfl | rfl
  all_goals
   go_enter Tryz.func36, Tryz.ntmps36;go_wp2_with fail;go_ret;exact ⟨rfl, Below.refl _ _⟩
 ·have hf : fldL op = [] := by
   unfold fldL
   repeat rw [if_neg (by omega)]
  rw [hf];have q1 : (op == 1) = false := by rw [beq_eq_false_iff_ne]; omega
  have q2 : (op == 2) = false := by rw [beq_eq_false_iff_ne]; omega
  have q3 : (op == 3) = false := by rw [beq_eq_false_iff_ne]; omega
  have q4 : (op == 4) = false := by rw [beq_eq_false_iff_ne]; omega
  have q5 : (op == 5) = false := by rw [beq_eq_false_iff_ne]; omega
  have q6 : (op == 6) = false := by rw [beq_eq_false_iff_ne]; omega
  have q7 : (op == 7) = false := by rw [beq_eq_false_iff_ne]; omega
  have q8 : (op == 8) = false := by rw [beq_eq_false_iff_ne]; omega
  have q9 : (op == 9) = false := by rw [beq_eq_false_iff_ne]; omega
  have q10 : (op == 10) = false := by rw [beq_eq_false_iff_ne]; omega
  have q11 : (op == 11) = false := by rw [beq_eq_false_iff_ne]; omega
  have q12 : (op == 12) = false := by rw [beq_eq_false_iff_ne]; omega
  have q13 : (op == 13) = false := by rw [beq_eq_false_iff_ne]; omega
  have q14 : (op == 14) = false := by rw [beq_eq_false_iff_ne]; omega
  have q15 : (op == 15) = false := by rw [beq_eq_false_iff_ne]; omega
  have q16 : (op == 16) = false := by rw [beq_eq_false_iff_ne]; omega
  have q17 : (op == 17) = false := by rw [beq_eq_false_iff_ne]; omega
  have q18 : (op == 18) = false := by rw [beq_eq_false_iff_ne]; omega
  have q19 : (op == 19) = false := by rw [beq_eq_false_iff_ne]; omega
  have q20 : (op == 20) = false := by rw [beq_eq_false_iff_ne]; omega
  have q21 : (op == 21) = false := by rw [beq_eq_false_iff_ne]; omega
  have q22 : (op == 22) = false := by rw [beq_eq_false_iff_ne]; omega
  have q23 : (op == 23) = false := by rw [beq_eq_false_iff_ne]; omega
  have q24 : (op == 24) = false := by rw [beq_eq_false_iff_ne]; omega
  have q25 : (op == 25) = false := by rw [beq_eq_false_iff_ne]; omega
  have q26 : (op == 26) = false := by rw [beq_eq_false_iff_ne]; omega
  have q27 : (op == 27) = false := by rw [beq_eq_false_iff_ne]; omega
  have q28 : (op == 28) = false := by rw [beq_eq_false_iff_ne]; omega
  have q29 : (op == 29) = false := by rw [beq_eq_false_iff_ne]; omega
  have q30 : (op == 30) = false := by rw [beq_eq_false_iff_ne]; omega
  have q31 : (op == 31) = false := by rw [beq_eq_false_iff_ne]; omega
  have r1 : (decide (9 ≤ op) && decide (op ≤ 11)) = false := by simp; omega
  have r2 : (decide (26 ≤ op) && decide (op ≤ 29)) = false := by simp; omega
  by_cases h9 : op < 1
  ·have x1 : decide (9 ≤ op) = false := by simp; omega
   have x2 : decide (26 ≤ op) = false := by simp; omega
   have y1 : ¬ (9 ≤ op) := by omega
   have y2 : ¬ (26 ≤ op) := by omega
   clear hf hr r1 r2 h9;go_enter Tryz.func36, Tryz.ntmps36;go_wp2_with fail;go_ret;exact ⟨rfl, Below.refl _ _⟩
  ·have x1 : decide (9 ≤ op) = true := by simp; omega
   have x2 : decide (26 ≤ op) = true := by simp; omega
   have x3 : decide (op ≤ 11) = false := by simp; omega
   have x4 : decide (op ≤ 29) = false := by simp; omega
   have y1 : 9 ≤ op := by omega
   have y2 : 26 ≤ op := by omega
   have y3 : ¬ op ≤ 11 := by omega
   have y4 : ¬ op ≤ 29 := by omega
   clear hf hr r1 r2 h9;go_enter Tryz.func36, Tryz.ntmps36;go_wp2_with fail;go_ret;exact ⟨rfl, Below.refl _ _⟩
def cbox (z : List Int) (v : Value) : Array Value := (z.map (Value.int .i64) ++ [v]).toArray
structure CB (w : World) (b : Nat) (z : List Int) (v : Value) : Prop where
  blk : w.heap[b]? = some (.cells (cbox z v) 26 (0, 0))
  len : z.length = 13
section
variable {w w' : World} {b : Nat} {z : List Int} {v : Value}
theorem CB.lt (h : CB w b z v) : b < w.heap.size := (Array.getElem?_eq_some_iff.1 h.blk).1
theorem CB.below (h : CB w b z v) (hb : Below w.heap.size w w') : CB w' b z v := ⟨by rw [hb.block b h.lt]; exact h.blk, h.len⟩
theorem CB.belowW {W : Nat} (h : CB w b z v) (hb : Below W w w') (hW : b < W) : CB w' b z v := ⟨by rw [hb.block b hW]; exact h.blk, h.len⟩
theorem CB.got (h : CB w b z v) {o : Nat} (ho : o < 13) : w.cell? ⟨b, o, none⟩ = some (.int .i64 (z.getD o 0)) ∧ w.frozen? ⟨b, o, none⟩ = false := by
 refine ⟨?_, by simp [World.frozen?, h.blk]⟩;rw [cell_of_row w b o _ 26 (0, 0) h.blk];have hl := h.len;have hz : o < z.length := by omega
 simp [cbox, List.getD, List.getElem?_append, hz]
theorem CB.gotV (h : CB w b z v) : w.cell? ⟨b, 13, none⟩ = some v ∧ w.frozen? ⟨b, 13, none⟩ = false := by
 refine ⟨?_, by simp [World.frozen?, h.blk]⟩;rw [cell_of_row w b 13 _ 26 (0, 0) h.blk];have hl := h.len;simp [cbox, List.getElem?_append, hl]
theorem CB.put (h : CB w b z v) {o : Nat} (ho : o < 13) (n : Int) : CB (w.setCell ⟨b, o, none⟩ (.int .i64 n)) b (z.set o n) v := by
 refine ⟨?_, by rw [List.length_set]; exact h.len⟩;rw [setCell_eq_setRow w b o _ 26 (0, 0) _ h.blk]
 have e : (cbox z v).set! o (.int .i64 n) = cbox (z.set o n) v := by
  have hl := h.len;unfold cbox;simp [List.set_append, hl, ho]
 have := setRow_heap w b _ (cbox (z.set o n) v) 26 (0, 0) h.blk;rw [← e] at this ⊢;simpa using this
theorem CB.putV (h : CB w b z v) (x : Value) : CB (w.setCell ⟨b, 13, none⟩ x) b z x := by
 refine ⟨?_, h.len⟩;rw [setCell_eq_setRow w b 13 _ 26 (0, 0) _ h.blk]
 have e : (cbox z v).set! 13 x = cbox z x := by
  have hl := h.len;unfold cbox;simp [List.set_append, hl]
 have := setRow_heap w b _ (cbox z x) 26 (0, 0) h.blk;rw [← e] at this ⊢;simpa using this
end
def sp (b : Nat) (s : Nat × Int) : Option Addr := if s.2 < 0 then none else some ⟨b, s.1, none⟩
def sm (s : Nat × Int) : Int := if s.2 < 0 then 0 else s.2
def sq (b : Nat) (s : Nat × Int) : Option Addr := if s.2 < 0 then some ⟨b, s.1, none⟩ else none
def scell (b : Nat) (s : Nat × Int) : List Value := [.pointer (sp b s), .int .i64 (sm s), .pointer (sq b s)]
def sagg (b : Nat) (s : Nat × Int) : Value := .agg #[.pointer (sp b s), .int .i64 (sm s), .pointer (sq b s)]
theorem funit_any (b o : Nat) (w : World) (hb : b < w.heap.size) :
  Calls Tryz.prog 58 #[.pointer (some ⟨b, o, none⟩)] w fun e w' => e = .returned (.slice (some ⟨w.heap.size, 0, none⟩) 2 2) ∧ Sl w' (some ⟨w.heap.size, 0, none⟩) (scell b (o, 16) ++ scell b (o + 1, 16)) ∧ Below w.heap.size w w' := by
 go_enter Tryz.func58, Tryz.ntmps58;go_wp2_with fail
 go_still_tail 8, (by kernel_rfl)
 change wpList _ _ _ _ _ w.drew
 go_wp2_with fail;go_ret;refine ⟨rfl, ?_, since_alloc (below_drewN (Below.refl _ w) 1) _⟩;exact Sl.new_ _ _ _
def srow (b : Nat) (f : Nat) : List Value := (slotL f).flatMap (scell b)
theorem slots_any (b : Nat) (f : Nat) (w : World) (hb : b < w.heap.size) :
  Calls Tryz.prog 30 #[.pointer (some ⟨b, 0, none⟩), .int .i32 (f : Int)] w fun e w' => (∃ A c, e = .returned (.slice A (slotL f).length c) ∧ Sl w' A (srow b f) ∧ ∀ b2 o2, A = some ⟨b2, o2, none⟩ → w.heap.size ≤ b2) ∧ Below w.heap.size w w' := by
 have HU := hJz (fun o => funit_any b o w hb)
 by_cases h77 : f = 77
 ·subst h77;clear HU;go_enter Tryz.func30, Tryz.ntmps30;go_wp2_with fail;go_ret;exact ⟨⟨_, _, rfl, Sl.new_ _ _ _, fun b2 o2 e => by injection e with e; injection e with e1 _; omega⟩, since_alloc (Below.refl _ w) _⟩
 by_cases h85 : f = 85
 ·subst h85;have HU2 := hJz (HU.out 3);clear HU;go_enter Tryz.func30, Tryz.ntmps30;go_wp2_with fail;refine HU2.out.mono ?_;rintro e w1 ⟨rfl, hs, hb1⟩;go_wp2_with fail;go_ret;exact ⟨⟨_, _, rfl, hs, fun b2 o2 e => by injection e with e; injection e with e1 _; omega⟩, hb1⟩
 by_cases h79 : f = 79
 ·subst h79;have HU2 := hJz (HU.out 5);clear HU;go_enter Tryz.func30, Tryz.ntmps30;go_wp2_with fail;refine HU2.out.mono ?_;rintro e w1 ⟨rfl, hs, hb1⟩;go_wp2_with fail;go_ret;exact ⟨⟨_, _, rfl, hs, fun b2 o2 e => by injection e with e; injection e with e1 _; omega⟩, hb1⟩
 by_cases h73 : f = 73
 ·subst h73;clear HU;go_enter Tryz.func30, Tryz.ntmps30;go_wp2_with fail;go_ret;exact ⟨⟨_, _, rfl, Sl.new_ _ _ _, fun b2 o2 e => by injection e with e; injection e with e1 _; omega⟩, since_alloc (Below.refl _ w) _⟩
 by_cases h65 : f = 65
 ·subst h65;clear HU;go_enter Tryz.func30, Tryz.ntmps30;go_wp2_with fail;go_ret;exact ⟨⟨_, _, rfl, Sl.new_ _ _ _, fun b2 o2 e => by injection e with e; injection e with e1 _; omega⟩, since_alloc (Below.refl _ w) _⟩
 by_cases h84 : f = 84
 ·subst h84;clear HU;go_enter Tryz.func30, Tryz.ntmps30;go_wp2_with fail;go_ret;exact ⟨⟨_, _, rfl, Sl.new_ _ _ _, fun b2 o2 e => by injection e with e; injection e with e1 _; omega⟩, since_alloc (Below.refl _ w) _⟩
 by_cases h68 : f = 68
 ·subst h68;clear HU;go_enter Tryz.func30, Tryz.ntmps30;go_wp2_with fail;go_ret;exact ⟨⟨_, _, rfl, Sl.new_ _ _ _, fun b2 o2 e => by injection e with e; injection e with e1 _; omega⟩, since_alloc (Below.refl _ w) _⟩
 by_cases h81 : f = 81
 ·subst h81;clear HU;go_enter Tryz.func30, Tryz.ntmps30;go_wp2_with fail;go_ret;exact ⟨⟨_, _, rfl, Sl.new_ _ _ _, fun b2 o2 e => by injection e with e; injection e with e1 _; omega⟩, since_alloc (Below.refl _ w) _⟩
 by_cases h80 : f = 80
 ·subst h80;clear HU;go_enter Tryz.func30, Tryz.ntmps30;go_wp2_with fail;go_ret;exact ⟨⟨_, _, rfl, Sl.new_ _ _ _, fun b2 o2 e => by injection e with e; injection e with e1 _; omega⟩, since_alloc (Below.refl _ w) _⟩
 have he : slotL f = [] := by
  unfold slotL
  repeat rw [if_neg (by assumption)]
 unfold srow;rw [he];have q77 : ((f : Int) == 77) = false := by rw [beq_eq_false_iff_ne]; omega
 have q85 : ((f : Int) == 85) = false := by rw [beq_eq_false_iff_ne]; omega
 have q79 : ((f : Int) == 79) = false := by rw [beq_eq_false_iff_ne]; omega
 have q73 : ((f : Int) == 73) = false := by rw [beq_eq_false_iff_ne]; omega
 have q65 : ((f : Int) == 65) = false := by rw [beq_eq_false_iff_ne]; omega
 have q84 : ((f : Int) == 84) = false := by rw [beq_eq_false_iff_ne]; omega
 have q68 : ((f : Int) == 68) = false := by rw [beq_eq_false_iff_ne]; omega
 have q81 : ((f : Int) == 81) = false := by rw [beq_eq_false_iff_ne]; omega
 have q80 : ((f : Int) == 80) = false := by rw [beq_eq_false_iff_ne]; omega
 clear h77 h85 h79 h73 h65 h84 h68 h81 h80 he HU;go_enter Tryz.func30, Tryz.ntmps30;go_wp2_with fail;go_ret;exact ⟨⟨none, 0, rfl, Sl.nil, fun b2 o2 e => by cases e⟩, Below.refl _ w⟩
theorem fits_any (b : Nat) (z : List Int) (v : Value) (s : (Nat × Int)) (w : World) (hB : CB w b z v) (hs : s.1 < 13) :
  Calls Tryz.prog 54 #[sagg b s] w fun e w' => e = .returned (.bool (fitS z s)) ∧ Below w.heap.size w w' := by
 obtain ⟨o, m⟩ := s;simp only at hs;have hl := hB.lt;unfold sagg fitS sp sm sq;simp only
 by_cases hm : m < 0
 ·rw [if_pos hm, if_pos hm, if_pos hm, decide_eq_true (.inl hm)];clear hm;go_enter Tryz.func54, Tryz.ntmps54;go_wp2_with fail;go_quiet (fail);go_wp2_with fail;go_ret;exact ⟨rfl, below_drewN (since_alloc (Below.refl _ w) _) _⟩
 ·rw [if_neg hm, if_neg hm, if_neg hm];obtain ⟨c0, f0⟩ := hB.got hs;obtain ⟨x, hx⟩ : ∃ x, z.getD o 0 = x := ⟨_, rfl⟩;rw [hx] at c0 ⊢
  by_cases h0 : 0 ≤ x
  ·have g0 : decide (0 ≤ x) = true := by simpa using h0
   obtain ⟨r, hr⟩ : ∃ r, decide (x ≤ m) = r := ⟨_, rfl⟩;have e : decide (m < 0 ∨ 0 ≤ x ∧ x ≤ m) = r := by rw [← hr]; by_cases h : x ≤ m <;> simp [h, h0] <;> omega
   rw [e];clear e hx;go_enter Tryz.func54, Tryz.ntmps54;go_wp2_with fail;go_quiet (fail);go_wp2_with fail;go_ret;exact ⟨rfl, below_drewN (since_alloc (Below.refl _ w) _) _⟩
  ·have g0 : decide (0 ≤ x) = false := by simpa using h0
   have e : decide (m < 0 ∨ 0 ≤ x ∧ x ≤ m) = false := by simp; omega
   rw [e];clear e hx;go_enter Tryz.func54, Tryz.ntmps54;go_wp2_with fail;go_quiet (fail);go_wp2_with fail;go_ret;exact ⟨rfl, below_drewN (since_alloc (Below.refl _ w) _) _⟩
theorem value_any (b : Nat) (z : List Int) (v : Value) (s : Nat × Int) (w : World) (hB : CB w b z v) (hs : s.1 < 13) :
  Calls Tryz.prog 31 #[sagg b s] w fun e w' => e = .returned (.int .i64 (z.getD s.1 0)) ∧ Below w.heap.size w w' := by
 obtain ⟨o, m⟩ := s;simp only at hs;have hl := hB.lt;unfold sagg sp sm sq;simp only;obtain ⟨c0, f0⟩ := hB.got hs
 by_cases hm : m < 0
 ·rw [if_pos hm, if_pos hm, if_pos hm];clear hm;go_enter Tryz.func31, Tryz.ntmps31;go_wp2_with fail;go_ret;exact ⟨rfl, since_alloc (Below.refl _ w) _⟩
 ·rw [if_neg hm, if_neg hm, if_neg hm];clear hm;go_enter Tryz.func31, Tryz.ntmps31;go_wp2_with fail;go_ret;exact ⟨rfl, since_alloc (Below.refl _ w) _⟩
theorem put_any (b : Nat) (z : List Int) (v : Value) (s : Nat × Int) (n : Int) (w : World) (hB : CB w b z v) (hs : s.1 < 13) :
  Calls Tryz.prog 55 #[sagg b s, .int .i64 n] w fun e w' => e = .returned (.tuple #[]) ∧ CB w' b (z.set s.1 n) v ∧ Chg b none w w' := by
 obtain ⟨o, m⟩ := s;simp only at hs;have hl := hB.lt;unfold sagg sp sm sq;simp only;obtain ⟨c0, f0⟩ := hB.got hs;have HP := hJz (fun V (h : CB V b z v) => h.put hs n)
 by_cases hm : m < 0
 ·rw [if_pos hm, if_pos hm, if_pos hm];clear hm;go_enter Tryz.func55, Tryz.ntmps55;go_wp2_with fail
  go_end0
  exact ⟨rfl, (HP.out w hB).below (since_alloc (Below.refl _ _) _), (Chg.set o _).trans (Chg.of_below (since_alloc (Below.refl _ _) _)) (.inl rfl)⟩
 ·rw [if_neg hm, if_neg hm, if_neg hm];clear hm;go_enter Tryz.func55, Tryz.ntmps55;go_wp2_with fail
  go_end0
  exact ⟨rfl, (HP.out w hB).below (since_alloc (Below.refl _ _) _), (Chg.set o _).trans (Chg.of_below (since_alloc (Below.refl _ _) _)) (.inl rfl)⟩
end
end Go.Proofs.YtpmnjojednbnpaaGreatDoor
