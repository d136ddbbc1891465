import Derived.Deep.CutBlock
import Derived.Deep.CutRange
import Derived.Deep.DeepCutAuto
import Derived.Test.YtpmnjojednbnpaaGreatDoorWr03
import Derived.Test.YtpmnjojednbnpaaGreatDoorWr06
import Derived.Test.YtpmnjojednbnpaaGreatDoorWr12
import Derived.Test.YtpmnjojednbnpaaGreatDoorWr15
import Derived.Test.YtpmnjojednbnpaaGreatDoorWr17
import Derived.Test.YtpmnjojednbnpaaGreatDoorWr19
import Derived.Test.YtpmnjojednbnpaaGreatDoorWr20
import Derived.Test.YtpmnjojednbnpaaGreatDoorWr21
section
namespace Go.Proofs.YtpmnjojednbnpaaGreatDoor
open Go.ChangeShapes Go.WideShapes Go.ChangeAt Go.RowKit
set_option linter.unusedVariables false
set_option linter.unusedSimpArgs false

def tLive : List UInt8 := [116, 114, 97, 100, 101, 32, 48, 32, 50, 46, 49, 32, 51, 46, 48, 32, 49, 32, 52, 32, 54]
theorem live_line : lineB [7, 0, 0, 2, 1, 3, 0, 1, 0, 0, 0, 4, 6] [] = tLive := by decide +kernel
theorem live_ok : okZ [7, 0, 0, 2, 1, 3, 0, 1, 0, 0, 0, 4, 6] 0 = true := by decide +kernel
theorem live_in : ∀ i, In64p (([7, 0, 0, 2, 1, 3, 0, 1, 0, 0, 0, 4, 6] : List Int).getD i 0) := by
  intro i
  match i with
  | 0 | 1 | 2 | 3 | 4 | 5 | 6 | 7 | 8 | 9 | 10 | 11 | 12 => exact ⟨by decide, by decide⟩
  | k + 13 => exact ⟨by show (-9223372036854775808 : Int) ≤ 0; decide, by show (0 : Int) ≤ 9223372036854775807; decide⟩
theorem pres_ok {w' : World} {e : Ending} {ok : Bool} {z nums : List Int} (h : PRes w' e ok z nums) (hk : ok = true) : ∃ A c, e = .returned (.tuple #[.agg (cbox z (.slice A nums.length c)), .int .i64 0]) ∧ nums.length ≤ c ∧ c ≤ maxLen ∧ Sl w' A (ints .i64 nums) := by
  unfold PRes at h
  rw [if_pos hk] at h
  exact h
set_option maxHeartbeats 16000000 in
set_option maxRecDepth 100000 in
theorem lives40_any (w : World) (hE : EvB w.heap.size w) : Calls Tryz.prog 16 #[] w fun e w' => e = .returned (.bool true) ∧ Below w.heap.size w w' := by
  have hal := since_alloc (Below.refl _ w) (.cells #[.int .i64 7, .int .i64 0, .int .i64 0, .int .i64 2, .int .i64 1, .int .i64 3, .int .i64 0, .int .i64 1, .int .i64 0, .int .i64 0, .int .i64 0, .int .i64 4, .int .i64 6, .slice none 0 0] 26)
  have hx := heap_alloc_new w (.cells #[.int .i64 7, .int .i64 0, .int .i64 0, .int .i64 2, .int .i64 1, .int .i64 3, .int .i64 0, .int .i64 1, .int .i64 0, .int .i64 0, .int .i64 0, .int .i64 4, .int .i64 6, .slice none 0 0] 26)
  obtain ⟨b, hb⟩ : ∃ b, w.heap.size = b := ⟨_, rfl⟩
  obtain ⟨W1, hW1⟩ : ∃ W1, w.alloc (.cells #[.int .i64 7, .int .i64 0, .int .i64 0, .int .i64 2, .int .i64 1, .int .i64 3, .int .i64 0, .int .i64 1, .int .i64 0, .int .i64 0, .int .i64 0, .int .i64 4, .int .i64 6, .slice none 0 0] 26) = W1 := ⟨_, rfl⟩
  rw [hW1] at hal hx
  rw [hb] at hal hx hE ⊢
  have HB := Lib.hid hb
  have HW1 := Lib.hid hW1
  have hlt := (Array.getElem?_eq_some_iff.1 hx).1
  have HEV : Hid (∀ V, Below W1.heap.size W1 V → EvB V.heap.size V ∧ Below b w V ∧ V.heap[b]? = some (.cells #[.int .i64 7, .int .i64 0, .int .i64 0, .int .i64 2, .int .i64 1, .int .i64 3, .int .i64 0, .int .i64 1, .int .i64 0, .int .i64 0, .int .i64 0, .int .i64 4, .int .i64 6, .slice none 0 0] 26 (0, 0))) := Lib.hid fun V hV => by
    have h1 := hal.trans (hV.mono (by omega))
    have hs := hV.size
    exact ⟨(hE.on h1).up (by omega), h1, (hV.block b hlt).trans hx⟩
  have hLI := wlineE 7 0 0 2 1 3 0 1 0 0 0 4 6 none 0 [] W1 (by simp) live_in (fun x hx => by cases hx) Sl.nil (HEV.out W1 (Below.refl _ _)).1
  have hli2 : (if okZ [7, 0, 0, 2, 1, 3, 0, 1, 0, 0, 0, 4, 6] ([] : List Int).length = true then #[Value.string (S8 (lineB [7, 0, 0, 2, 1, 3, 0, 1, 0, 0, 0, 4, 6] [])), .int .i64 0] else #[.string (S8 []), .int .i64 3]) = #[.string (S8 tLive), .int .i64 0] := by
    rw [live_line]
    exact if_pos live_ok
  rw [hli2] at hLI
  have HLI := Lib.hid hLI
  have hpl := parse_line (z := [7, 0, 0, 2, 1, 3, 0, 1, 0, 0, 0, 4, 6]) (nums := []) rfl live_in (fun x hx => by cases hx) live_ok
  rw [live_line] at hpl
  have HPL := Lib.hid hpl
  have htl : tLive.length ≤ 900 := by decide
  have HPA := Lib.hid (fun V (h : EvB V.heap.size V) => rparseP tLive V htl h)
  have hse : (S8 tLive).toList = [116, 114, 97, 100, 101, 32, 48, 32, 50, 46, 49, 32, 51, 46, 48, 32, 49, 32, 52, 32, 54] := by rw [ByteArray.toList_eq, S8_data]; rfl
  have k0 : W1.cell? ⟨b, 0, none⟩ = some (.int .i64 7) := (cell_of_row W1 b 0 _ _ (0, 0) hx).trans rfl
  have k1 : W1.cell? ⟨b, 1, none⟩ = some (.int .i64 0) := (cell_of_row W1 b 1 _ _ (0, 0) hx).trans rfl
  have k2 : W1.cell? ⟨b, 2, none⟩ = some (.int .i64 0) := (cell_of_row W1 b 2 _ _ (0, 0) hx).trans rfl
  have k3 : W1.cell? ⟨b, 3, none⟩ = some (.int .i64 2) := (cell_of_row W1 b 3 _ _ (0, 0) hx).trans rfl
  have k4 : W1.cell? ⟨b, 4, none⟩ = some (.int .i64 1) := (cell_of_row W1 b 4 _ _ (0, 0) hx).trans rfl
  have k5 : W1.cell? ⟨b, 5, none⟩ = some (.int .i64 3) := (cell_of_row W1 b 5 _ _ (0, 0) hx).trans rfl
  have k6 : W1.cell? ⟨b, 6, none⟩ = some (.int .i64 0) := (cell_of_row W1 b 6 _ _ (0, 0) hx).trans rfl
  have k7 : W1.cell? ⟨b, 7, none⟩ = some (.int .i64 1) := (cell_of_row W1 b 7 _ _ (0, 0) hx).trans rfl
  have k8 : W1.cell? ⟨b, 8, none⟩ = some (.int .i64 0) := (cell_of_row W1 b 8 _ _ (0, 0) hx).trans rfl
  have k9 : W1.cell? ⟨b, 9, none⟩ = some (.int .i64 0) := (cell_of_row W1 b 9 _ _ (0, 0) hx).trans rfl
  have k10 : W1.cell? ⟨b, 10, none⟩ = some (.int .i64 0) := (cell_of_row W1 b 10 _ _ (0, 0) hx).trans rfl
  have k11 : W1.cell? ⟨b, 11, none⟩ = some (.int .i64 4) := (cell_of_row W1 b 11 _ _ (0, 0) hx).trans rfl
  have k12 : W1.cell? ⟨b, 12, none⟩ = some (.int .i64 6) := (cell_of_row W1 b 12 _ _ (0, 0) hx).trans rfl
  have k13 : W1.cell? ⟨b, 13, none⟩ = some (.slice none 0 0) := (cell_of_row W1 b 13 _ _ (0, 0) hx).trans rfl
  have kl := (Array.getElem?_eq_some_iff.1 hx).1
  clear hal hx hb hW1 hlt hE hLI hli2 hpl htl
  go_enter Tryz.func16, Tryz.ntmps16
  go_upto_region 2 with fail
  rw [HW1.out, HB.out]
  go_wp2_with fail
  refine HLI.out.mono ?_
  rintro e y1 ⟨rfl, hb1⟩
  have HP := Lib.hid (HPA.out y1 (HEV.out y1 hb1).1)
  have HB1 := Lib.hid hb1
  clear hb1 k0 k1 k2 k3 k4 k5 k6 k7 k8 k9 k10 k11 k12 k13 kl
  go_wp2_with fail
  refine HP.out.mono ?_
  rintro e y2 ⟨hp2, hb2⟩
  obtain ⟨h1, h2, h3⟩ := HPL.out
  obtain ⟨A2, c2, rfl, _, _, hs2⟩ := pres_ok hp2 h1
  rw [h3] at hs2
  rw [h2, h3]
  have e0 : Value.agg (cbox [7, 0, 0, 2, 1, 3, 0, 1, 0, 0, 0, 4, 6] (.slice A2 ([] : List Int).length c2)) = .agg #[.int .i64 7, .int .i64 0, .int .i64 0, .int .i64 2, .int .i64 1, .int .i64 3, .int .i64 0, .int .i64 1, .int .i64 0, .int .i64 0, .int .i64 0, .int .i64 4, .int .i64 6, .slice A2 0 c2] := rfl
  rw [e0]
  clear h1 h2 h3 hp2 e0
  have hb3 := since_step HB1.out hb2
  have hal := since_alloc (Below.refl _ y2) (.cells #[.int .i64 7, .int .i64 0, .int .i64 0, .int .i64 2, .int .i64 1, .int .i64 3, .int .i64 0, .int .i64 1, .int .i64 0, .int .i64 0, .int .i64 0, .int .i64 4, .int .i64 6, .slice A2 0 c2] 26)
  have hxx := heap_alloc_new y2 (.cells #[.int .i64 7, .int .i64 0, .int .i64 0, .int .i64 2, .int .i64 1, .int .i64 3, .int .i64 0, .int .i64 1, .int .i64 0, .int .i64 0, .int .i64 0, .int .i64 4, .int .i64 6, .slice A2 0 c2] 26)
  obtain ⟨xb, hxb⟩ : ∃ xb, y2.heap.size = xb := ⟨_, rfl⟩
  obtain ⟨Y3, hY3⟩ : ∃ Y3, y2.alloc (.cells #[.int .i64 7, .int .i64 0, .int .i64 0, .int .i64 2, .int .i64 1, .int .i64 3, .int .i64 0, .int .i64 1, .int .i64 0, .int .i64 0, .int .i64 0, .int .i64 4, .int .i64 6, .slice A2 0 c2] 26) = Y3 := ⟨_, rfl⟩
  have hb4 := since_step hb3 hal
  have hs3 := hs2.below hal
  rw [hxb] at hxx
  rw [hY3] at hxx hb4 hs3
  have HXB := Lib.hid hxb
  have HY3 := Lib.hid hY3
  obtain ⟨_, hB4, hx4⟩ := HEV.out Y3 hb4
  have HSA := Lib.hid (rsame34 7 0 0 2 1 3 0 1 0 0 0 4 6 A2 none c2 0 [] Y3 (by simp) (by simpa using hs3) Sl.nil)
  have HBY : Hid (∀ V, Below Y3.heap.size Y3 V → Below b w V) := Lib.hid fun V hV => hB4.trans (hV.mono (Nat.le_of_lt (Array.getElem?_eq_some_iff.1 hx4).1))
  have k0 : Y3.cell? ⟨b, 0, none⟩ = some (.int .i64 7) := (cell_of_row Y3 b 0 _ _ (0, 0) hx4).trans rfl
  have k1 : Y3.cell? ⟨b, 1, none⟩ = some (.int .i64 0) := (cell_of_row Y3 b 1 _ _ (0, 0) hx4).trans rfl
  have k2 : Y3.cell? ⟨b, 2, none⟩ = some (.int .i64 0) := (cell_of_row Y3 b 2 _ _ (0, 0) hx4).trans rfl
  have k3 : Y3.cell? ⟨b, 3, none⟩ = some (.int .i64 2) := (cell_of_row Y3 b 3 _ _ (0, 0) hx4).trans rfl
  have k4 : Y3.cell? ⟨b, 4, none⟩ = some (.int .i64 1) := (cell_of_row Y3 b 4 _ _ (0, 0) hx4).trans rfl
  have k5 : Y3.cell? ⟨b, 5, none⟩ = some (.int .i64 3) := (cell_of_row Y3 b 5 _ _ (0, 0) hx4).trans rfl
  have k6 : Y3.cell? ⟨b, 6, none⟩ = some (.int .i64 0) := (cell_of_row Y3 b 6 _ _ (0, 0) hx4).trans rfl
  have k7 : Y3.cell? ⟨b, 7, none⟩ = some (.int .i64 1) := (cell_of_row Y3 b 7 _ _ (0, 0) hx4).trans rfl
  have k8 : Y3.cell? ⟨b, 8, none⟩ = some (.int .i64 0) := (cell_of_row Y3 b 8 _ _ (0, 0) hx4).trans rfl
  have k9 : Y3.cell? ⟨b, 9, none⟩ = some (.int .i64 0) := (cell_of_row Y3 b 9 _ _ (0, 0) hx4).trans rfl
  have k10 : Y3.cell? ⟨b, 10, none⟩ = some (.int .i64 0) := (cell_of_row Y3 b 10 _ _ (0, 0) hx4).trans rfl
  have k11 : Y3.cell? ⟨b, 11, none⟩ = some (.int .i64 4) := (cell_of_row Y3 b 11 _ _ (0, 0) hx4).trans rfl
  have k12 : Y3.cell? ⟨b, 12, none⟩ = some (.int .i64 6) := (cell_of_row Y3 b 12 _ _ (0, 0) hx4).trans rfl
  have k13 : Y3.cell? ⟨b, 13, none⟩ = some (.slice none 0 0) := (cell_of_row Y3 b 13 _ _ (0, 0) hx4).trans rfl
  have kl := (Array.getElem?_eq_some_iff.1 hx4).1
  have x0 : Y3.cell? ⟨xb, 0, none⟩ = some (.int .i64 7) := (cell_of_row Y3 xb 0 _ _ (0, 0) hxx).trans rfl
  have x1 : Y3.cell? ⟨xb, 1, none⟩ = some (.int .i64 0) := (cell_of_row Y3 xb 1 _ _ (0, 0) hxx).trans rfl
  have x2 : Y3.cell? ⟨xb, 2, none⟩ = some (.int .i64 0) := (cell_of_row Y3 xb 2 _ _ (0, 0) hxx).trans rfl
  have x3 : Y3.cell? ⟨xb, 3, none⟩ = some (.int .i64 2) := (cell_of_row Y3 xb 3 _ _ (0, 0) hxx).trans rfl
  have x4 : Y3.cell? ⟨xb, 4, none⟩ = some (.int .i64 1) := (cell_of_row Y3 xb 4 _ _ (0, 0) hxx).trans rfl
  have x5 : Y3.cell? ⟨xb, 5, none⟩ = some (.int .i64 3) := (cell_of_row Y3 xb 5 _ _ (0, 0) hxx).trans rfl
  have x6 : Y3.cell? ⟨xb, 6, none⟩ = some (.int .i64 0) := (cell_of_row Y3 xb 6 _ _ (0, 0) hxx).trans rfl
  have x7 : Y3.cell? ⟨xb, 7, none⟩ = some (.int .i64 1) := (cell_of_row Y3 xb 7 _ _ (0, 0) hxx).trans rfl
  have x8 : Y3.cell? ⟨xb, 8, none⟩ = some (.int .i64 0) := (cell_of_row Y3 xb 8 _ _ (0, 0) hxx).trans rfl
  have x9 : Y3.cell? ⟨xb, 9, none⟩ = some (.int .i64 0) := (cell_of_row Y3 xb 9 _ _ (0, 0) hxx).trans rfl
  have x10 : Y3.cell? ⟨xb, 10, none⟩ = some (.int .i64 0) := (cell_of_row Y3 xb 10 _ _ (0, 0) hxx).trans rfl
  have x11 : Y3.cell? ⟨xb, 11, none⟩ = some (.int .i64 4) := (cell_of_row Y3 xb 11 _ _ (0, 0) hxx).trans rfl
  have x12 : Y3.cell? ⟨xb, 12, none⟩ = some (.int .i64 6) := (cell_of_row Y3 xb 12 _ _ (0, 0) hxx).trans rfl
  have x13 : Y3.cell? ⟨xb, 13, none⟩ = some (.slice A2 0 c2) := (cell_of_row Y3 xb 13 _ _ (0, 0) hxx).trans rfl
  have xl := (Array.getElem?_eq_some_iff.1 hxx).1
  clear hb2 hs2 hb3 hal hxb hY3 hb4 hs3 hxx hx4 hB4 HP
  go_upto_region 4 with fail
  rw [HY3.out, HXB.out]
  go_wp2_with fail
  refine HSA.out.mono ?_
  rintro e y4 ⟨rfl, hb5⟩
  have hB5 := HBY.out y4 hb5
  go_wp2_with fail
  go_ret
  exact ⟨rfl, hB5⟩
theorem rd_lo40 {w : World} {r : List Value} (h : Go.Proofs.YtpmnjojednbnpaaGreatDoor.Rd w (.cat (.int .i64) (.cat (.int .i64) (.cat (.int .i64) .nil))) r) : ∃ g : Lo, r = g.cells ∧ g.in64 := by
  obtain ⟨p, q, rfl, h1, p2, q2, rfl, h2, p3, q3, rfl, h3, rfl⟩ := h
  obtain ⟨a, rfl, i1⟩ := rd_int h1
  obtain ⟨b, rfl, i2⟩ := rd_int h2
  obtain ⟨c, rfl, i3⟩ := rd_int h3
  exact ⟨⟨a, b, c⟩, rfl, i1, i2, i3⟩
theorem rd_db40 {w : World} {r : List Value} (h : Go.Proofs.YtpmnjojednbnpaaGreatDoor.Rd w (.cat (.cat (.int .i64) (.cat (.int .i64) .nil)) (.cat (.cat (.int .i64) (.cat (.int .i64) .nil)) (.cat (.int .i64) .nil))) r) : ∃ g : Db, r = g.cells ∧ g.in64 := by
  obtain ⟨p, q, rfl, ⟨p1, q1, rfl, h1, p2, q2, rfl, h2, rfl⟩, p5, q5, rfl, ⟨p3, q3, rfl, h3, p4, q4, rfl, h4, rfl⟩, p6, q6, rfl, h5, rfl⟩ := h
  obtain ⟨a, rfl, i1⟩ := rd_int h1
  obtain ⟨b, rfl, i2⟩ := rd_int h2
  obtain ⟨c, rfl, i3⟩ := rd_int h3
  obtain ⟨d, rfl, i4⟩ := rd_int h4
  obtain ⟨e, rfl, i5⟩ := rd_int h5
  exact ⟨⟨a, b, c, d, e⟩, rfl, i1, i2, i3, i4, i5⟩
def InR40 (w : World) (x : Rn) : Prop := In64p x.a ∧ In64p x.b ∧ In64p x.q ∧ x.lots.length ≤ x.c ∧ x.c ≤ maxLen ∧ Sl w x.A (rc Lo.cells x.lots) ∧ ∀ y ∈ x.lots, y.in64
theorem rd_rt40 {w : World} {r : List Value} (h : Go.Proofs.YtpmnjojednbnpaaGreatDoor.Rd w (.cat (.cat (.int .i64) (.cat (.int .i64) .nil)) (.cat (.int .i64) (.cat (.sl (.cat (.int .i64) (.cat (.int .i64) (.cat (.int .i64) .nil)))) .nil))) r) : ∃ g : Rn, r = g.cells ∧ InR40 w g := by
  obtain ⟨p, q, rfl, ⟨p1, q1, rfl, h1, p2, q2, rfl, h2, rfl⟩, p5, q5, rfl, h3, p6, q6, rfl, h4, rfl⟩ := h
  obtain ⟨a, rfl, i1⟩ := rd_int h1
  obtain ⟨b, rfl, i2⟩ := rd_int h2
  obtain ⟨c, rfl, i3⟩ := rd_int h3
  obtain ⟨A, n, k, rows, rfl, _⟩ := _root_.id h4
  obtain ⟨L, hL, g1, g2, g3, g4⟩ := rd_rowsP (f := Lo.cells) (fun r => rd_lo40) h4
  subst hL
  exact ⟨⟨a, b, c, A, k, L⟩, rfl, i1, i2, i3, g1, g2, g3, g4⟩
theorem rd_reply40 {w : World} {a : Array Value} (h : Go.Proofs.YtpmnjojednbnpaaGreatDoor.Rd w (.cat (.int .i64) (.cat (.sl (.int .i64)) (.cat (.sl (.cat (.cat (.int .i64) (.cat (.int .i64) .nil)) (.cat (.cat (.int .i64) (.cat (.int .i64) .nil)) (.cat (.int .i64) .nil)))) (.cat (.sl (.cat (.cat (.int .i64) (.cat (.int .i64) .nil)) (.cat (.int .i64) (.cat (.sl (.cat (.int .i64) (.cat (.int .i64) (.cat (.int .i64) .nil)))) .nil)))) .nil)))) a.toList) : ∃ (er : Int) (A1 A2 A3 : Option Addr) (k1 k2 k3 : Nat) (nums : List Int) (debs : List Db) (rets : List Rn), a = #[.int .i64 er, .slice A1 nums.length k1, .slice A2 debs.length k2, .slice A3 rets.length k3] ∧ In64p er ∧ (nums.length ≤ k1 ∧ k1 ≤ maxLen ∧ Sl w A1 (ints .i64 nums) ∧ ∀ x ∈ nums, In64p x) ∧ (debs.length ≤ k2 ∧ k2 ≤ maxLen ∧ Sl w A2 (rc Db.cells debs) ∧ ∀ x ∈ debs, x.in64) ∧ rets.length ≤ k3 ∧ k3 ≤ maxLen ∧ Sl w A3 (rc Rn.cells rets) ∧ ∀ x ∈ rets, InR40 w x := by
  obtain ⟨r, hr⟩ : ∃ r, a.toList = r := ⟨_, rfl⟩
  rw [hr] at h
  have ha : a = r.toArray := by rw [← hr]
  obtain ⟨p, q, rfl, h1, p2, q2, rfl, h2, p3, q3, rfl, h3, p4, q4, rfl, h4, rfl⟩ := h
  obtain ⟨er, rfl, i1⟩ := rd_int h1
  obtain ⟨A1, n1, k1, rows1, rfl, _⟩ := _root_.id h2
  obtain ⟨A2, n2, k2, rows2, rfl, _⟩ := _root_.id h3
  obtain ⟨A3, n3, k3, rows3, rfl, _⟩ := _root_.id h4
  obtain ⟨L1, e1, g1, g2, g3, g4⟩ := rd_rowsP (f := fun n : Int => [Value.int .i64 n]) (fun r => rd_int) h2
  obtain ⟨L2, e2, f1, f2, f3, f4⟩ := rd_rowsP (f := Db.cells) (fun r => rd_db40) h3
  obtain ⟨L3, e3, d1, d2, d3, d4⟩ := rd_rowsP (f := Rn.cells) (fun r => rd_rt40) h4
  subst e1; subst e2; subst e3
  rw [rc_int] at g3
  exact ⟨er, A1, A2, A3, k1, k2, k3, L1, L2, L3, ha, i1, ⟨g1, g2, g3, g4⟩, ⟨f1, f2, f3, f4⟩, d1, d2, d3, d4⟩
set_option maxHeartbeats 32000000 in
set_option maxRecDepth 100000 in
theorem walk_WordsReplies (a0 : Array Value) (w : World) (hE : EvB w.heap.size w) (w0 : Go.Proofs.YtpmnjojednbnpaaGreatDoor.Rd w (.cat (.int .i64) (.cat (.sl (.int .i64)) (.cat (.sl (.cat (.cat (.int .i64) (.cat (.int .i64) .nil)) (.cat (.cat (.int .i64) (.cat (.int .i64) .nil)) (.cat (.int .i64) .nil)))) (.cat (.sl (.cat (.cat (.int .i64) (.cat (.int .i64) .nil)) (.cat (.int .i64) (.cat (.sl (.cat (.int .i64) (.cat (.int .i64) (.cat (.int .i64) .nil)))) .nil)))) .nil)))) a0.toList) :
    Calls Tryz.prog 4 #[.agg a0] w fun e w' => e = .returned (.bool true) ∧ Below w.heap.size w w' := by
  obtain ⟨er, A1, A2, A3, k1, k2, k3, nums, debs, rets, rfl, i1, ⟨a2, a3, a4, a5⟩, ⟨b2, b3, b4, b5⟩, d1, d2, d3, d4⟩ := rd_reply40 w0
  clear w0
  unfold maxLen at a3 b3 d2
  have hal := since_alloc (Below.refl _ w) (.cells #[.int .i64 er, .slice A1 nums.length k1, .slice A2 debs.length k2, .slice A3 rets.length k3] 48)
  have hx := heap_alloc_new w (.cells #[.int .i64 er, .slice A1 nums.length k1, .slice A2 debs.length k2, .slice A3 rets.length k3] 48)
  obtain ⟨b, hb⟩ : ∃ b, w.heap.size = b := ⟨_, rfl⟩
  obtain ⟨W1, hW1⟩ : ∃ W1, w.alloc (.cells #[.int .i64 er, .slice A1 nums.length k1, .slice A2 debs.length k2, .slice A3 rets.length k3] 48) = W1 := ⟨_, rfl⟩
  rw [hW1] at hal hx
  obtain ⟨NU, hNU⟩ : ∃ NU, nums.take 30 = NU := ⟨_, rfl⟩
  obtain ⟨ND, hND⟩ : ∃ ND, debs.take 10 = ND := ⟨_, rfl⟩
  obtain ⟨NR, hNR⟩ : ∃ NR, rets.take 10 = NR := ⟨_, rfl⟩
  have hNUl : NU.length = min 30 nums.length := by rw [← hNU, List.length_take]
  have hNDl : ND.length = min 10 debs.length := by rw [← hND, List.length_take]
  have hNRl : NR.length = min 10 rets.length := by rw [← hNR, List.length_take]
  have s1 : Sl w A1 (ints .i64 NU) := by
    have := a4.take 30
    rw [← hNU]
    simpa [ints, List.map_take] using this
  have s2 : Sl w A2 (rc Db.cells ND) := by
    have := b4.take (10 * 5)
    rw [rc_take (f := Db.cells) (m := 5) (fun x => rfl), hND] at this
    exact this
  have s3 : Sl w A3 (rc Rn.cells NR) := by
    have := d3.take (10 * 4)
    rw [rc_take (f := Rn.cells) (m := 4) (fun x => rfl), hNR] at this
    exact this
  have HSL : Hid (∀ V, Below b w V → EvB V.heap.size V ∧ b ≤ V.heap.size ∧ Sl V A1 (ints .i64 NU) ∧ Sl V A2 (rc Db.cells ND) ∧ Sl V A3 (rc Rn.cells NR) ∧ ∀ x ∈ NR, Sl V x.A (rc Lo.cells x.lots)) := Lib.hid fun V hV => by
    have hs := hV.size
    rw [← hb] at hV
    refine ⟨(hE.on hV).up hs, by omega, s1.below hV, s2.below hV, s3.below hV, fun x hx => ?_⟩
    rw [← hNR] at hx
    exact (d4 x (List.mem_of_mem_take hx)).2.2.2.2.2.1.below hV
  have HI : Hid ((∀ x ∈ NU, In64p x) ∧ (∀ x ∈ ND, x.in64) ∧ ∀ x ∈ NR, In64p x.a ∧ In64p x.b ∧ In64p x.q ∧ x.lots.length ≤ x.c ∧ x.c ≤ maxLen ∧ ∀ y ∈ x.lots, y.in64) := Lib.hid ⟨fun x hx => a5 x (by rw [← hNU] at hx; exact List.mem_of_mem_take hx), fun x hx => b5 x (by rw [← hND] at hx; exact List.mem_of_mem_take hx), fun x hx => by
    rw [← hNR] at hx
    obtain ⟨j1, j2, j3, j4, j5, j6, j7⟩ := d4 x (List.mem_of_mem_take hx)
    exact ⟨j1, j2, j3, j4, j5, j7⟩⟩
  have HA1 : Hid (0 < nums.length → ∃ b o, A1 = some ⟨b, o, none⟩) := Lib.hid fun h => by
    obtain ⟨b, o, e, _⟩ := a4.int h
    exact ⟨b, o, e⟩
  have HA2 : Hid (0 < debs.length → ∃ b o, A2 = some ⟨b, o, none⟩) := Lib.hid fun h => by
    obtain ⟨b, o, e, _⟩ := Sl.elem (m := 5) (fun x => rfl) (by decide) b4 h
    exact ⟨b, o, e⟩
  have HA3 : Hid (0 < rets.length → ∃ b o, A3 = some ⟨b, o, none⟩) := Lib.hid fun h => by
    obtain ⟨b, o, e, _⟩ := Sl.elem (m := 4) (fun x => rfl) (by decide) d3 h
    exact ⟨b, o, e⟩
  rw [hb] at hal hx ⊢
  have HB := Lib.hid hb
  have HW1 := Lib.hid hW1
  have HLV := Lib.hid (fun V (h : EvB V.heap.size V) => lives40_any V h)
  have HER := Lib.hid i1
  have HL1 := Lib.hid hNUl
  have HL2 := Lib.hid hNDl
  have HL3 := Lib.hid hNRl
  have HX := Lib.hid hx
  have HAL := Lib.hid hal
  clear a4 a5 b4 b5 d3 d4 s1 s2 s3 hNU hND hNR hNUl hNDl hNRl hb hW1 i1 hE hal
  have g0 : W1.cell? ⟨b, 0, none⟩ = some (.int .i64 er) := (cell_of_row W1 b 0 _ _ (0, 0) hx).trans rfl
  have fg0 : W1.frozen? ⟨b, 0, none⟩ = false := by simp [World.frozen?, hx]
  have g1 : W1.cell? ⟨b, 1, none⟩ = some (.slice A1 nums.length k1) := (cell_of_row W1 b 1 _ _ (0, 0) hx).trans rfl
  have fg1 : W1.frozen? ⟨b, 1, none⟩ = false := by simp [World.frozen?, hx]
  have g2 : W1.cell? ⟨b, 2, none⟩ = some (.slice A2 debs.length k2) := (cell_of_row W1 b 2 _ _ (0, 0) hx).trans rfl
  have fg2 : W1.frozen? ⟨b, 2, none⟩ = false := by simp [World.frozen?, hx]
  have g3 : W1.cell? ⟨b, 3, none⟩ = some (.slice A3 rets.length k3) := (cell_of_row W1 b 3 _ _ (0, 0) hx).trans rfl
  have fg3 : W1.frozen? ⟨b, 3, none⟩ = false := by simp [World.frozen?, hx]
  have gl := (Array.getElem?_eq_some_iff.1 hx).1
  clear hx
  go_enter Tryz.func4, Tryz.ntmps4
  go_upto_region 1 with fail
  rw [HW1.out, HB.out]
  go_upto_if 8 with fail
  go_cut [] (fun wx => wx.heap[b]? = some (.cells #[.int .i64 er, .slice A1 NU.length k1, .slice A2 debs.length k2, .slice A3 rets.length k3] 48 (0, 0)) ∧ Below b w wx)
  case first =>
    by_cases hz : 30 < nums.length
    · obtain ⟨bq, oq, hAq⟩ := HA1.out (by omega)
      have hzI : (30 : Int) < (nums.length : Int) := by omega
      have hc : (30 : Int) ≤ (k1 : Int) := by omega
      have HE : Hid (NU.length = 30) := Lib.hid (by rw [HL1.out]; omega)
      have hcs := @cell_set
      subst hAq
      go_wp2_with fail
      go_meet
      case rel =>
        refine ⟨?_, HAL.out.setCell (Nat.le_refl _) _⟩
        rw [HE.out]
        exact setbW 1 _ HX.out
    · have hzI : ¬ (30 : Int) < (nums.length : Int) := by omega
      have HE : Hid (NU.length = nums.length) := Lib.hid (by rw [HL1.out]; omega)
      go_wp2_with fail
      go_meet
      case rel => exact ⟨by rw [HE.out]; exact HX.out, HAL.out⟩
  case rest =>
    obtain ⟨hx, hB⟩ := hcut
    clear g0 fg0 g1 fg1 g2 fg2 g3 fg3 gl
    clear HX HAL
    generalize wc = W2 at *
    have HX2 := Lib.hid hx
    have HB2 := Lib.hid hB
    have g0 : W2.cell? ⟨b, 0, none⟩ = some (.int .i64 er) := (cell_of_row W2 b 0 _ _ (0, 0) hx).trans rfl
    have fg0 : W2.frozen? ⟨b, 0, none⟩ = false := by simp [World.frozen?, hx]
    have g1 : W2.cell? ⟨b, 1, none⟩ = some (.slice A1 NU.length k1) := (cell_of_row W2 b 1 _ _ (0, 0) hx).trans rfl
    have fg1 : W2.frozen? ⟨b, 1, none⟩ = false := by simp [World.frozen?, hx]
    have g2 : W2.cell? ⟨b, 2, none⟩ = some (.slice A2 debs.length k2) := (cell_of_row W2 b 2 _ _ (0, 0) hx).trans rfl
    have fg2 : W2.frozen? ⟨b, 2, none⟩ = false := by simp [World.frozen?, hx]
    have g3 : W2.cell? ⟨b, 3, none⟩ = some (.slice A3 rets.length k3) := (cell_of_row W2 b 3 _ _ (0, 0) hx).trans rfl
    have fg3 : W2.frozen? ⟨b, 3, none⟩ = false := by simp [World.frozen?, hx]
    have gl := (Array.getElem?_eq_some_iff.1 hx).1
    clear hx hB
    go_upto_if 16 with fail
    go_cut [] (fun wx => wx.heap[b]? = some (.cells #[.int .i64 er, .slice A1 NU.length k1, .slice A2 ND.length k2, .slice A3 rets.length k3] 48 (0, 0)) ∧ Below b w wx)
    case first =>
      by_cases hz : 10 < debs.length
      · obtain ⟨bq, oq, hAq⟩ := HA2.out (by omega)
        have hzI : (10 : Int) < (debs.length : Int) := by omega
        have hc : (10 : Int) ≤ (k2 : Int) := by omega
        have HE : Hid (ND.length = 10) := Lib.hid (by rw [HL2.out]; omega)
        have hcs := @cell_set
        subst hAq
        go_wp2_with fail
        go_meet
        case rel =>
          refine ⟨?_, HB2.out.setCell (Nat.le_refl _) _⟩
          rw [HE.out]
          exact setbW 2 _ HX2.out
      · have hzI : ¬ (10 : Int) < (debs.length : Int) := by omega
        have HE : Hid (ND.length = debs.length) := Lib.hid (by rw [HL2.out]; omega)
        go_wp2_with fail
        go_meet
        case rel => exact ⟨by rw [HE.out]; exact HX2.out, HB2.out⟩
    case rest =>
      obtain ⟨hx, hB⟩ := hcut
      clear g0 fg0 g1 fg1 g2 fg2 g3 fg3 gl
      clear HX2 HB2
      generalize wc = W3 at *
      have HX3 := Lib.hid hx
      have HB3 := Lib.hid hB
      have g0 : W3.cell? ⟨b, 0, none⟩ = some (.int .i64 er) := (cell_of_row W3 b 0 _ _ (0, 0) hx).trans rfl
      have fg0 : W3.frozen? ⟨b, 0, none⟩ = false := by simp [World.frozen?, hx]
      have g1 : W3.cell? ⟨b, 1, none⟩ = some (.slice A1 NU.length k1) := (cell_of_row W3 b 1 _ _ (0, 0) hx).trans rfl
      have fg1 : W3.frozen? ⟨b, 1, none⟩ = false := by simp [World.frozen?, hx]
      have g2 : W3.cell? ⟨b, 2, none⟩ = some (.slice A2 ND.length k2) := (cell_of_row W3 b 2 _ _ (0, 0) hx).trans rfl
      have fg2 : W3.frozen? ⟨b, 2, none⟩ = false := by simp [World.frozen?, hx]
      have g3 : W3.cell? ⟨b, 3, none⟩ = some (.slice A3 rets.length k3) := (cell_of_row W3 b 3 _ _ (0, 0) hx).trans rfl
      have fg3 : W3.frozen? ⟨b, 3, none⟩ = false := by simp [World.frozen?, hx]
      have gl := (Array.getElem?_eq_some_iff.1 hx).1
      clear hx hB
      go_upto_if 24 with fail
      go_cut [] (fun wx => wx.heap[b]? = some (.cells #[.int .i64 er, .slice A1 NU.length k1, .slice A2 ND.length k2, .slice A3 NR.length k3] 48 (0, 0)) ∧ Below b w wx)
      case first =>
        by_cases hz : 10 < rets.length
        · obtain ⟨bq, oq, hAq⟩ := HA3.out (by omega)
          have hzI : (10 : Int) < (rets.length : Int) := by omega
          have hc : (10 : Int) ≤ (k3 : Int) := by omega
          have HE : Hid (NR.length = 10) := Lib.hid (by rw [HL3.out]; omega)
          have hcs := @cell_set
          subst hAq
          go_wp2_with fail
          go_meet
          case rel =>
            refine ⟨?_, HB3.out.setCell (Nat.le_refl _) _⟩
            rw [HE.out]
            exact setbW 3 _ HX3.out
        · have hzI : ¬ (10 : Int) < (rets.length : Int) := by omega
          have HE : Hid (NR.length = rets.length) := Lib.hid (by rw [HL3.out]; omega)
          go_wp2_with fail
          go_meet
          case rel => exact ⟨by rw [HE.out]; exact HX3.out, HB3.out⟩
      case rest =>
        obtain ⟨hx, hB⟩ := hcut
        clear g0 fg0 g1 fg1 g2 fg2 g3 fg3 gl
        clear HX3 HB3
        generalize wc = W4 at *
        have HX4 := Lib.hid hx
        have HB4 := Lib.hid hB
        have g0 : W4.cell? ⟨b, 0, none⟩ = some (.int .i64 er) := (cell_of_row W4 b 0 _ _ (0, 0) hx).trans rfl
        have fg0 : W4.frozen? ⟨b, 0, none⟩ = false := by simp [World.frozen?, hx]
        have g1 : W4.cell? ⟨b, 1, none⟩ = some (.slice A1 NU.length k1) := (cell_of_row W4 b 1 _ _ (0, 0) hx).trans rfl
        have fg1 : W4.frozen? ⟨b, 1, none⟩ = false := by simp [World.frozen?, hx]
        have g2 : W4.cell? ⟨b, 2, none⟩ = some (.slice A2 ND.length k2) := (cell_of_row W4 b 2 _ _ (0, 0) hx).trans rfl
        have fg2 : W4.frozen? ⟨b, 2, none⟩ = false := by simp [World.frozen?, hx]
        have g3 : W4.cell? ⟨b, 3, none⟩ = some (.slice A3 NR.length k3) := (cell_of_row W4 b 3 _ _ (0, 0) hx).trans rfl
        have fg3 : W4.frozen? ⟨b, 3, none⟩ = false := by simp [World.frozen?, hx]
        have gl := (Array.getElem?_eq_some_iff.1 hx).1
        clear hx hB
        have hnr : NR.length ≤ 10 := by rw [HL3.out]; omega
        obtain ⟨hev, hbl, t1, t2, t3, t4⟩ := HSL.out W4 HB4.out
        have HEV := Lib.hid hev
        have HT3 := Lib.hid t3
        have HKW : Hid (∀ V, Below W4.heap.size W4 V → V.heap[b]? = some (.cells #[.int .i64 er, .slice A1 NU.length k1, .slice A2 ND.length k2, .slice A3 NR.length k3] 48 (0, 0)) ∧ Below b w V) := Lib.hid fun V hV => ⟨(hV.block b gl).trans HX4.out, HB4.out.trans (hV.mono hbl)⟩
        clear hev hbl t1 t2 t3 t4
        go_wp2_with fail
        clear a2 a3 b2 b3 d1 d2
        go_loopw [3, 4] (fun nv iv wr => ∃ (j M : Nat), j ≤ NR.length ∧ iv = .int .i64 (j : Int) ∧ nv = .int .i64 (M : Int) ∧ M ≤ 100 ∧ (∀ x ∈ NR.take j, x.lots.length ≤ 100) ∧ W4 = wr) (fun _ iv _ => NR.length - (intOf iv).toNat)
        case atStart => exact ⟨0, 0, by omega, rfl, rfl, by omega, by simp, rfl⟩
        case round =>
          obtain ⟨j, M, hj1, rfl, rfl, hM, hall, rfl⟩ := hrel
          by_cases hj : j < NR.length
          · have hjI : (j : Int) < (NR.length : Int) := by omega
            have hj0 : (0 : Int) ≤ (j : Int) := by omega
            obtain ⟨b2, o2, hA2, hbw, hcc⟩ := Sl.elem (m := 4) (fun x => rfl) (by decide) HT3.out hj
            have hmem := List.getElem_mem hj
            obtain ⟨x, hx⟩ : ∃ x, NR[j] = x := ⟨_, rfl⟩
            have htk : NR.take (j + 1) = NR.take j ++ [x] := by rw [take_snoc NR j hj, hx]
            rw [hx] at hcc hmem
            have hx3 := hcc 3 _ rfl
            obtain ⟨_, _, _, hlc, hcm, _⟩ := HI.out.2.2 x hmem
            unfold maxLen at hcm
            obtain ⟨LN, hLN⟩ : ∃ LN, x.lots.length = LN := ⟨_, rfl⟩
            rw [hLN] at hx3 hlc
            subst hA2
            by_cases hL : 100 < LN
            · obtain ⟨v, hv⟩ : ∃ v : Int, IntKind.i64.wrap ((M : Int) + (LN : Int)) = v := ⟨_, rfl⟩
              have dh : decide ((100 : Int) < (LN : Int)) = true := decide_eq_true (by omega)
              have dhI : (100 : Int) < (LN : Int) := by omega
              have HL := Lib.hid (HLV.out W4 HEV.out)
              clear hx htk hcc hmem hlc hcm hLN hall hM
              by_cases hbig : 100 < v
              · have dg : decide ((100 : Int) < v) = true := decide_eq_true hbig
                go_wp2_with fail
                refine HL.out.mono ?_
                rintro e y1 ⟨rfl, hb1⟩
                have hB1 := (HKW.out y1 hb1).2
                go_wp2_with fail
                go_ret
                exact ⟨rfl, hB1⟩
              · have dg : decide ((100 : Int) < v) = false := decide_eq_false hbig
                go_wp2_with fail
                refine HL.out.mono ?_
                rintro e y1 ⟨rfl, hb1⟩
                have hB1 := (HKW.out y1 hb1).2
                go_wp2_with fail
                go_ret
                exact ⟨rfl, hB1⟩
            have hw1 : IntKind.i64.wrap ((M : Int) + (LN : Int)) = (M : Int) + (LN : Int) := IntWalk.i64_in _ (by omega)
            by_cases hbig : 100 < M + LN
            · have dg : decide ((100 : Int) < (M : Int) + (LN : Int)) = true := decide_eq_true (by omega)
              have dgI : (100 : Int) < (M : Int) + (LN : Int) := by omega
              have HL := Lib.hid (HLV.out W4 HEV.out)
              clear hx htk hcc hmem hlc hcm hLN hall hbig hM hL
              go_wp2_with fail
              refine HL.out.mono ?_
              rintro e y1 ⟨rfl, hb1⟩
              have hB1 := (HKW.out y1 hb1).2
              go_wp2_with fail
              go_ret
              exact ⟨rfl, hB1⟩
            · have dg : decide ((100 : Int) < (M : Int) + (LN : Int)) = false := decide_eq_false (by omega)
              have dgI : ¬ (100 : Int) < (M : Int) + (LN : Int) := by omega
              have dh : decide ((100 : Int) < (LN : Int)) = false := decide_eq_false (by omega)
              have dhI : ¬ (100 : Int) < (LN : Int) := by omega
              have HALL : Hid (∀ y ∈ NR.take (j + 1), y.lots.length ≤ 100) := Lib.hid fun y hy => by
                rw [htk] at hy
                rcases List.mem_append.1 hy with hy | hy
                · exact hall y hy
                · rw [List.mem_singleton.1 hy]; omega
              have HML : Hid (M + LN ≤ 100) := Lib.hid (by omega)
              clear hx htk hcc hmem hlc hcm hLN hall hbig hM
              go_wp2_with fail
              go_roundw
              case rel => exact ⟨j + 1, M + LN, by omega, by go_num, by go_num, HML.out, HALL.out, trivial⟩
              case measure => simp [intOf]; omega
          · obtain rfl : j = NR.length := by omega
            rw [List.take_length] at hall
            have HOK : Hid (∀ V, Below b w V → ∀ x ∈ NR, x.ok V) := Lib.hid fun V hV x hx => by
              obtain ⟨q1, q2, q3, q4, q5, q6⟩ := HI.out.2.2 x hx
              exact ⟨q1, q2, q3, hall x hx, q6, (HSL.out V hV).2.2.2.2.2 x hx⟩
            have hnu : NU.length ≤ 100 := by rw [HL1.out]; omega
            have hnd : ND.length ≤ 100 := by rw [HL2.out]; omega
            have hnr2 : NR.length ≤ 100 := by omega
            have HPR := Lib.hid (fun V (hV : Below b w V) => wreplyE er A1 A2 A3 k1 k2 k3 NU ND NR V HER.out HI.out.1 HI.out.2.1 (HOK.out V hV) hnu hnd hnr2 (HSL.out V hV).2.2.1 (HSL.out V hV).2.2.2.1 (HSL.out V hV).2.2.2.2.1 (HSL.out V hV).1)
            have HRR := Lib.hid (fun V (hV : Below b w V) => rreplyE er A1 A2 A3 k1 k2 k3 NU ND NR V HER.out HI.out.1 HI.out.2.1 (HOK.out V hV) hnu hnd hnr2 (HSL.out V hV).2.2.1 (HSL.out V hV).2.2.2.1 (HSL.out V hV).2.2.2.2.1)
            obtain ⟨RBy, hRBy⟩ : ∃ R, replyB er NU ND NR = R := ⟨_, rfl⟩
            rw [hRBy] at HPR HRR
            have hse : ((S8 RBy).toList == (S8 RBy).toList) = true := (Lib.bytes_beq_iff _ _).mpr rfl
            have HCE : Hid (∀ V, Below W4.heap.size W4 V → V.cell? ⟨b, 0, none⟩ = some (.int .i64 er) ∧ V.cell? ⟨b, 1, none⟩ = some (.slice A1 NU.length k1) ∧ V.cell? ⟨b, 2, none⟩ = some (.slice A2 ND.length k2) ∧ V.cell? ⟨b, 3, none⟩ = some (.slice A3 NR.length k3) ∧ b < V.heap.size) := Lib.hid fun V hV => by
              have h := (HKW.out V hV).1
              exact ⟨(cell_of_row V b 0 _ _ (0, 0) h).trans rfl, (cell_of_row V b 1 _ _ (0, 0) h).trans rfl, (cell_of_row V b 2 _ _ (0, 0) h).trans rfl, (cell_of_row V b 3 _ _ (0, 0) h).trans rfl, (Array.getElem?_eq_some_iff.1 h).1⟩
            clear hall hnu hnd hnr2 hRBy HOK HX4 HB4
            clear fg0 fg1 fg2 fg3
            go_upto_region 14 with fail
            clear g0 g1 g2 g3 gl
            refine wp_region_held_drew (S := (fun V => Below W4.heap.size W4 V)) (by kernel_rfl) (by exact (Below.refl _ _).drew) (fun hHeld => ?_)
            refine tkZ (i := 0) (oi := ⟨some 58, _, _, _, _, _⟩) (v := ?_) rfl (by kernel_rfl) (fun _ _ _ h => h) (Or.inl ⟨by rfl, ?_⟩) hHeld ?_
            rotate_left
            · (intro w hSw; obtain ⟨p0, p1, p2, p3, pl⟩ := HCE.out _ (hSw); go_simp <;> with_reducible rfl)
            try simp only [pqZ]
            refine tkZ (i := 2) (oi := ⟨some 60, _, _, _, _, _⟩) (v := ?_) rfl (by kernel_rfl) (fun _ _ _ h => h) (Or.inl ⟨by rfl, ?_⟩) hHeld ?_
            rotate_left
            · (intro w hSw; obtain ⟨p0, p1, p2, p3, pl⟩ := HCE.out _ (hSw); go_simp <;> with_reducible rfl)
            try simp only [pqZ]
            refine wpAnyH_ready (rs := [1]) (by kernel_rfl) (by simp) ?_
            refine AllReadyH.cons (o := ⟨some 59, _, _, _, _, _⟩) rfl (fun K hK => ?_) AllReadyH.nil
            go_simp
            refine (HPR.out _ (HKW.out _ hHeld).2).mono ?_
            rintro e y1 ⟨rfl, hb1⟩
            have hKeep := since_step hHeld hb1
            clear hb1
            go_wp2_with fail
            refine hK.out _ _ (by (try dsimp only); exact hKeep) (fun hHeld => ?_)
            clear hK K hKeep
            try simp only [pqZ]
            refine wpAnyH_ready (rs := [3]) (by kernel_rfl) (by simp) ?_
            refine AllReadyH.cons (o := ⟨some 61, _, _, _, _, _⟩) rfl (fun K hK => ?_) AllReadyH.nil
            go_simp
            refine (HRR.out _ (HKW.out _ hHeld).2).mono ?_
            rintro e y2 ⟨rfl, hb2⟩
            have hKeep := since_step hHeld hb2
            clear hb2
            go_wp2_with fail
            refine hK.out _ _ (by (try dsimp only); exact hKeep) (fun hHeld => ?_)
            clear hK K hKeep
            try simp only [pqZ]
            refine tkZ (i := 4) (oi := ⟨some 62, _, _, _, _, _⟩) (v := ?_) rfl (by kernel_rfl) (fun _ _ _ h => h) (Or.inl ⟨by rfl, ?_⟩) hHeld ?_
            rotate_left
            · (intro w hSw; obtain ⟨p0, p1, p2, p3, pl⟩ := HCE.out _ (hSw); go_simp <;> with_reducible rfl)
            try simp only [pqZ]
            refine tkZ (i := 5) (oi := ⟨some 63, _, _, _, _, _⟩) (v := ?_) rfl (by kernel_rfl) (fun _ _ _ h => h) (Or.inl ⟨by rfl, ?_⟩) hHeld ?_
            rotate_left
            · (intro w hSw; obtain ⟨p0, p1, p2, p3, pl⟩ := HCE.out _ (hSw); go_simp <;> with_reducible rfl)
            try simp only [pqZ]
            refine wpAnyH_ready (rs := [6]) (by kernel_rfl) (by simp) ?_
            refine AllReadyH.cons (o := ⟨some 64, _, _, _, _, _⟩) rfl (fun K hK => ?_) AllReadyH.nil
            go_simp
            refine (HLV.out _ (HSL.out _ (HKW.out _ hHeld).2).1).mono ?_
            rintro e y3 ⟨rfl, hb3⟩
            have hKeep := since_step hHeld hb3
            clear hb3
            go_wp2_with fail
            refine hK.out _ _ (by (try dsimp only); exact hKeep) (fun hHeld => ?_)
            clear hK K hKeep
            try simp only [pqZ]
            refine tkZ (i := 7) (oi := ⟨some 65, _, _, _, _, _⟩) (v := ?_) rfl (by kernel_rfl) (fun _ _ _ h => h) (Or.inl ⟨by rfl, ?_⟩) hHeld ?_
            rotate_left
            · (intro w hSw; obtain ⟨p0, p1, p2, p3, pl⟩ := HCE.out _ (hSw); go_simp <;> with_reducible rfl)
            try simp only [pqZ]
            refine tkZ (i := 8) (oi := ⟨some 2, _, _, _, _, _⟩) (v := ?_) rfl (by kernel_rfl) (fun _ _ _ h => h) (Or.inl ⟨by rfl, ?_⟩) hHeld ?_
            rotate_left
            · (intro w hSw; obtain ⟨p0, p1, p2, p3, pl⟩ := HCE.out _ (hSw); go_simp <;> with_reducible rfl)
            try simp only [pqZ]
            refine wpAnyH_done (by kernel_rfl) ?_ _
            have hB9 := (HKW.out _ hHeld).2
            go_wp2_with fail
            go_ret
            exact ⟨rfl, hB9⟩
end Go.Proofs.YtpmnjojednbnpaaGreatDoor
end
