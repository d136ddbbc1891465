import Derived.Deep.DeepCutAuto
import Derived.Test.YtmjndpkfhdoljaaGreatCc09
import Derived.Test.YtmjndpkfhdoljaaGreatCc10
import Derived.Test.YtmjndpkfhdoljaaGreatCc11
import Derived.Test.YtmjndpkfhdoljaaGreatCc16
import Derived.Test.YtmjndpkfhdoljaaGreatCc23
import Derived.Deep.RegionLaw
import Derived.Lib.SliceRun
import Derived.Test.YtmjndpkfhdoljaaGreatCc01
import Derived.Deep.RegionHeld3
import Derived.Test.YtmjndpkfhdoljaaGreatCc02
set_option maxHeartbeats 16000000
set_option maxRecDepth 100000
set_option linter.unusedVariables false
set_option linter.unusedSimpArgs false
namespace Go.Proofs.YtmjndpkfhdoljaaGreat
open Go.ChangeShapes Go.WideShapes Go.ChangeAt Go.RowKit
section
def worthV (a : Ast) (q : Int) : Int := if okA a then fV (q * a.price) else 0
def worthE (a : Ast) (q : Int) : Int := if okA a then fE (q * a.price) else 2
theorem worth_any (a : Ast) (q : Int) (w : World) (hq : In64 q) (hp : In64 a.price) :
    Calls Tryz.prog 47 #[astV a, .int .i64 q] w fun e w' => e = .returned (.tuple #[.int .i64 (worthV a q), .int .i64 (worthE a q)]) ∧ Below w.heap.size w w' := by
  have HC := fun W => acheck_any a W
  have hB0 := since_alloc (Below.refl _ w) (.cells #[.int .i64 a.id, .int .i64 a.price, .int .i64 a.hc] 63)
  have HX0 := Lib.hid (AB.new w a 63)
  unfold astV at HC
  by_cases hok : okA a
  · rw [if_pos hok] at HC
    rw [show worthV a q = fV (q * a.price) from if_pos hok, show worthE a q = fE (q * a.price) from if_pos hok]
    have HC := Lib.hid HC
    have HM := Lib.hid (fun w => wmul_any q a.price hq hp w)
    have HI := Lib.hid (fun w => int_any (q * a.price) (mul_in128 hq hp) w)
    clear hok hq hp
    generalize q * a.price = z at *
    unfold astV
    go_enter Tryz.func47, Tryz.ntmps47
    go_wp2_with fail
    refine (HC.out _).mono ?_
    rintro e w1 ⟨rfl, hb1⟩
    have X1 := HX0.out.below hb1
    have hB1 := since_step hB0 hb1
    clear hb1 hB0
    obtain ⟨x0, x1, x2, x3⟩ := _root_.id X1
    go_wp2_with fail
    refine (HM.out _).mono ?_
    rintro e w2 ⟨rfl, hb2⟩
    have hB2 := since_step hB1 hb2
    clear hb2 hB1
    go_wp2_with fail
    refine (HI.out _).mono ?_
    rintro e w3 ⟨rfl, hb3⟩
    have hB3 := since_step hB2 hb3
    go_wp2_with fail
    go_ret2
    exact ⟨rfl, hB3⟩
  · rw [if_neg hok] at HC
    rw [show worthV a q = 0 from if_neg hok, show worthE a q = 2 from if_neg hok]
    have HC := Lib.hid HC
    clear hok
    unfold astV
    go_enter Tryz.func47, Tryz.ntmps47
    go_wp2_with fail
    refine (HC.out _).mono ?_
    rintro e w1 ⟨rfl, hb1⟩
    have hB1 := since_step hB0 hb1
    go_wp2_with fail
    go_ret2
    exact ⟨rfl, hB1⟩
def countV (a : Ast) (q : Int) : Int := if okA a ∧ 0 ≤ q ∧ In64 (q * a.price) then q * a.price * (10000 - a.hc) / 10000 else 0
def countE (a : Ast) (q : Int) : Int := if okA a ∧ 0 ≤ q then fE (q * a.price) else 2
theorem count_rng {a : Ast} {z : Int} (h : okA a) (hz : 0 ≤ z) : 0 ≤ z * (10000 - a.hc) / 10000 ∧ z * (10000 - a.hc) / 10000 ≤ z := by
  obtain ⟨_, _, _, h4, h5⟩ := h
  have h1 : 0 ≤ z * (10000 - a.hc) := Int.mul_nonneg hz (by omega)
  have h2 : z * (10000 - a.hc) ≤ z * 10000 := Int.mul_le_mul_of_nonneg_left (by omega) hz
  omega
theorem count_any (a : Ast) (q : Int) (w : World) (hq : In64 q) (hp : In64 a.price) :
    Calls Tryz.prog 46 #[astV a, .int .i64 q] w fun e w' => e = .returned (.tuple #[.int .i64 (countV a q), .int .i64 (countE a q)]) ∧ Below w.heap.size w w' := by
  have HC := fun W => acheck_any a W
  have HW := fun W => worth_any a q W hq hp
  have hB0 := since_alloc (Below.refl _ w) (.cells #[.int .i64 a.id, .int .i64 a.price, .int .i64 a.hc] 63)
  have HX0 := Lib.hid (AB.new w a 63)
  unfold astV at HC HW
  by_cases hok : okA a
  · rw [if_pos hok] at HC
    rw [show worthV a q = fV (q * a.price) from if_pos hok, show worthE a q = fE (q * a.price) from if_pos hok] at HW
    have HC := Lib.hid HC
    by_cases hq0 : 0 ≤ q
    · have hz0 : 0 ≤ q * a.price := Int.mul_nonneg hq0 hok.2.2.1.1
      rw [show countE a q = fE (q * a.price) from if_pos ⟨hok, hq0⟩]
      by_cases h64 : In64 (q * a.price)
      · rw [show countV a q = q * a.price * (10000 - a.hc) / 10000 from if_pos ⟨hok, hq0, h64⟩, show fE (q * a.price) = 0 from if_pos h64]
        rw [show fV (q * a.price) = q * a.price from if_pos h64, show fE (q * a.price) = 0 from if_pos h64] at HW
        have hrg := count_rng hok hz0
        have hh : 0 ≤ a.hc ∧ a.hc ≤ 10000 := hok.2.2.2
        have hfin : In64 (10000 - a.hc) := by unfold In64; omega
        have hqn : In64 (q * a.price * (10000 - a.hc) / 10000) := by unfold In64 at *; omega
        have HSC := fun W => fscale_pos (q * a.price) (10000 - a.hc) 10000 h64 hfin (by omega) (by omega) W
        rw [show sV (q * a.price * (10000 - a.hc)) 10000 = q * a.price * (10000 - a.hc) / 10000 from if_pos hqn, show sE (q * a.price * (10000 - a.hc)) 10000 = 0 from if_pos hqn, show ((10000 : Nat) : Int) = 10000 from rfl] at HSC
        have HSC := Lib.hid HSC
        have HW := Lib.hid HW
        unfold In64 at hfin
        clear hok hz0 h64 hrg hqn hq hp
        generalize sR (q * a.price * (10000 - a.hc)) 10000 = rr at *
        generalize q * a.price * (10000 - a.hc) / 10000 = cc at *
        generalize q * a.price = z at *
        unfold astV
        go_enter Tryz.func46, Tryz.ntmps46
        go_wp2_with fail
        refine (HC.out _).mono ?_
        rintro e w1 ⟨rfl, hb1⟩
        have X1 := HX0.out.below hb1
        have hB1 := since_step hB0 hb1
        clear hb1 hB0
        obtain ⟨x0, x1, x2, x3⟩ := _root_.id X1
        go_wp2_with fail
        refine (HW.out _).mono ?_
        rintro e w2 ⟨rfl, hb2⟩
        have X2 := X1.below hb2
        have hB2 := since_step hB1 hb2
        clear hb2 hB1 x0 x1 x2 x3 X1
        obtain ⟨x0, x1, x2, x3⟩ := _root_.id X2
        go_wp2_with fail
        refine (HSC.out _).mono ?_
        rintro e w3 ⟨rfl, hb3⟩
        have hB3 := since_step hB2 hb3
        go_wp2_with fail
        go_ret2
        exact ⟨rfl, hB3⟩
      · rw [show countV a q = 0 from if_neg fun h => h64 h.2.2, show fE (q * a.price) = 7 from if_neg h64]
        rw [show fV (q * a.price) = 0 from if_neg h64, show fE (q * a.price) = 7 from if_neg h64] at HW
        have HW := Lib.hid HW
        clear hok hz0 h64 hq hp
        unfold astV
        go_enter Tryz.func46, Tryz.ntmps46
        go_wp2_with fail
        refine (HC.out _).mono ?_
        rintro e w1 ⟨rfl, hb1⟩
        have X1 := HX0.out.below hb1
        have hB1 := since_step hB0 hb1
        clear hb1 hB0
        obtain ⟨x0, x1, x2, x3⟩ := _root_.id X1
        go_wp2_with fail
        refine (HW.out _).mono ?_
        rintro e w2 ⟨rfl, hb2⟩
        have hB2 := since_step hB1 hb2
        go_wp2_with fail
        go_ret2
        exact ⟨rfl, hB2⟩
    · rw [show countE a q = 2 from if_neg fun h => hq0 h.2, show countV a q = 0 from if_neg fun h => hq0 h.2.1]
      clear hok hq hp HW
      unfold astV
      go_enter Tryz.func46, Tryz.ntmps46
      go_wp2_with fail
      refine (HC.out _).mono ?_
      rintro e w1 ⟨rfl, hb1⟩
      have hB1 := since_step hB0 hb1
      go_wp2_with fail
      go_ret2
      exact ⟨rfl, hB1⟩
  · rw [if_neg hok] at HC
    rw [show countE a q = 2 from if_neg fun h => hok h.1, show countV a q = 0 from if_neg fun h => hok h.1]
    have HC := Lib.hid HC
    clear hok hq hp HW
    unfold astV
    go_enter Tryz.func46, Tryz.ntmps46
    go_wp2_with fail
    refine (HC.out _).mono ?_
    rintro e w1 ⟨rfl, hb1⟩
    have hB1 := since_step hB0 hb1
    go_wp2_with fail
    go_ret2
    exact ⟨rfl, hB1⟩
end
section
structure HeldA (W V : World) (gi gr : Nat) (a : Ast) : Prop where
  bel : Below gr W V
  le : W.heap.size ≤ V.heap.size
  lt : gr < V.heap.size
  i0 : V.cell? ⟨gi, 0, none⟩ = some (.int .i64 a.id)
  i1 : V.cell? ⟨gi, 1, none⟩ = some (.int .i64 a.price)
  i2 : V.cell? ⟨gi, 2, none⟩ = some (.int .i64 a.hc)
  e0 : ∃ v, V.cell? ⟨gr, 0, none⟩ = some v
  e1 : ∃ v, V.cell? ⟨gr, 1, none⟩ = some v
  f0 : V.frozen? ⟨gr, 0, none⟩ = false
  f1 : V.frozen? ⟨gr, 1, none⟩ = false
section
variable {W V V' : World} {gi gr : Nat} {a : Ast}
theorem HeldA.step (h : HeldA W V gi gr a) (hb : Below V.heap.size V V') : HeldA W V' gi gr a := by
  have hc : ∀ p u, V.cell? p = some u → V'.cell? p = some u := fun p u e => (hb.cell (World.block_lt_of_cell? _ _ e)).trans e
  exact ⟨h.bel.trans (hb.mono (Nat.le_of_lt h.lt)), Nat.le_trans h.le hb.size, Nat.lt_of_lt_of_le h.lt hb.size, hc _ _ h.i0, hc _ _ h.i1, hc _ _ h.i2, h.e0.imp fun v e => hc _ _ e, h.e1.imp fun v e => hc _ _ e,
    (hb.frozen (p := ⟨gr, 0, none⟩) h.lt).trans h.f0, (hb.frozen (p := ⟨gr, 1, none⟩) h.lt).trans h.f1⟩
theorem HeldA.set (h : HeldA W V gi gr a) (hne : gi ≠ gr) (u v : Value) : HeldA W ((V.setCell ⟨gr, 0, none⟩ u).setCell ⟨gr, 1, none⟩ v) gi gr a := by
  obtain ⟨v0, h0⟩ := h.e0
  obtain ⟨v1, h1⟩ := h.e1
  have hne' : ¬ gr = gi := fun e => hne e.symm
  refine ⟨Below.setCell (Below.setCell h.bel (by simp) _) (by simp) _, by simpa using h.le, by simpa using h.lt, ?_, ?_, ?_, ?_, ?_, ?_, ?_⟩
  · simp [cell_set, hne', h.i0]
  · simp [cell_set, hne', h.i1]
  · simp [cell_set, hne', h.i2]
  · exact ⟨u, by simp [cell_set, h0, h1]⟩
  · exact ⟨v, by simp [cell_set, h0, h1]⟩
  · simpa using h.f0
  · simpa using h.f1
theorem HeldA.got (h : HeldA W V gi gr a) (s : Bool) (B : Option Addr) (m d : Nat) :
    ((V.setCell ⟨gr, 0, none⟩ (.bool s)).setCell ⟨gr, 1, none⟩ (.slice B m d)).cell? ⟨gr, 0, none⟩ = some (.bool s) ∧ ((V.setCell ⟨gr, 0, none⟩ (.bool s)).setCell ⟨gr, 1, none⟩ (.slice B m d)).cell? ⟨gr, 1, none⟩ = some (.slice B m d) := by
  obtain ⟨v0, h0⟩ := h.e0
  obtain ⟨v1, h1⟩ := h.e1
  exact ⟨by simp [cell_set, h0, h1], by simp [cell_set, h0, h1]⟩
end
end
section
structure Ax where
  (id : Int) (price : Int) (hc : Int)
deriving DecidableEq
def Ax.cells (g : Ax) : List Value := [.int .i64 g.id, .int .i64 g.price, .int .i64 g.hc]
def Ax.val (g : Ax) : Value := .agg #[.int .i64 g.id, .int .i64 g.price, .int .i64 g.hc]
def Ax.zero : Ax := ⟨0, 0, 0⟩
theorem Ax.len (g : Ax) : g.cells.length = 3 := rfl
theorem Ax.one (g : Ax) : ∀ u ∈ g.cells, u.oneCell' = true := by
  intro u hu
  simp only [Ax.cells, List.mem_cons, List.not_mem_nil, or_false] at hu
  rcases hu with h | h | h <;> subst h <;> rfl
def Ax.at (g : Ax) (w : World) (b o : Nat) : Prop :=
  w.cell? ⟨b, o, none⟩ = some (.int .i64 g.id) ∧ w.cell? ⟨b, o + 1, none⟩ = some (.int .i64 g.price) ∧ w.cell? ⟨b, o + 2, none⟩ = some (.int .i64 g.hc)
theorem Ax.at_of {w : World} {b o : Nat} {g : Ax} (h : ∀ j u, g.cells[j]? = some u → w.cell? ⟨b, o + j, none⟩ = some u) : g.at w b o :=
  ⟨h 0 _ rfl, h 1 _ rfl, h 2 _ rfl⟩
theorem Ax.at_keep {w w' : World} {b o : Nat} {g : Ax} (h : g.at w b o) (k : ∀ i, w'.cell? ⟨b, i, none⟩ = w.cell? ⟨b, i, none⟩) : g.at w' b o := by
  unfold Ax.at at *
  simp only [k]
  exact h
theorem Sl.ax {w : World} {A : Option Addr} {l : List Ax} (h : Sl w A (rc Ax.cells l)) {k : Nat} (hk : k < l.length) : ∃ b o, A = some ⟨b, o, none⟩ ∧ b < w.heap.size ∧ l[k].at w b (o + k * 3) := by
  obtain ⟨b, o, hA, hb, hc⟩ := Sl.elem (m := 3) Ax.len (by decide) h hk
  exact ⟨b, o, hA, hb, Ax.at_of hc⟩
theorem EAx : Elem Tryz.prog 22 63 3 24 := Elem.mk' (z := .agg #[.int .i64 0, .int .i64 0, .int .i64 0]) (by kernel_rfl) (by kernel_rfl) (by decide) (by decide)
def Ax.Tells (F : Nat) (caps : Array Value) (p : Ax → Bool) (B : Nat) (w : World) : Prop :=
  ∀ (g : Ax) (W : World), Below B w W → Calls Tryz.prog F (#[g.val] ++ caps) W fun e w' => e = .returned (.bool (p g)) ∧ Below W.heap.size W w'
theorem Ax.Tells.below {F : Nat} {caps : Array Value} {p : Ax → Bool} {B : Nat} {w w1 : World} (h : Ax.Tells F caps p B w) (hb : Below B w w1) {C : Nat} (hC : B ≤ C) : Ax.Tells F caps p C w1 :=
  fun g W hW => h g W (hb.trans (hW.mono hC))
theorem index_ax (A : Option Addr) (cap : Nat) (l : List Ax) (F : Nat) (caps : Array Value) (p : Ax → Bool) (w : World) (hl : l.length ≤ 1000000) (hs : Sl w A (rc Ax.cells l)) (hF : Ent Tryz.prog F) (hp : Ax.Tells F caps p w.heap.size w) :
    Calls Tryz.prog 119 #[.slice A l.length cap, .func (.func F) #[] caps] w fun e w' => e = .returned (.int .i64 (atL p l)) ∧ Below w.heap.size w w' := by
  go_enter Tryz.func119, Tryz.ntmps119
  go_wp2
  go_loopw [8] (fun i wr => ∃ k : Nat, k ≤ l.length ∧ i = .int .i64 k ∧ (∀ j, (hj : j < l.length) → j < k → p l[j] = false) ∧ Below w.heap.size w wr) (fun i _ => l.length - (intOf i).toNat)
  case atStart => exact ⟨0, by omega, rfl, fun j hj h => absurd h (by omega), Below.refl _ _⟩
  case round =>
    obtain ⟨k, hk, rfl, hno, hB⟩ := hrel
    by_cases hlt2 : k < l.length
    · obtain ⟨b, o, rfl, hbw, hg⟩ := hs.ax hlt2
      have hg1 : l[k].at wr b (o + k * 3) := Ax.at_keep (w := w) hg fun i => hB.cell (p := ⟨b, i, none⟩) hbw
      obtain ⟨g0, g1, g2⟩ := hg1
      have hbr : b < wr.heap.size := Nat.lt_of_lt_of_le hbw hB.size
      have step := hp l[k] wr hB
      cases hq : p l[k] with
      | true =>
        have HQ := Lib.hid hq
        go_wp2_with fail
        rw [hF, Oper.upon_enter]
        refine step.mono ?_
        rintro e w1 ⟨rfl, hb1⟩
        have hB1 := since_step hB hb1
        clear hb1
        rw [HQ.out]
        go_wp2
        go_ret
        exact ⟨retI (atL_some hlt2 (fun j hj => hno j (by omega) hj) HQ.out).symm, hB1⟩
      | false =>
        have HQ := Lib.hid hq
        go_wp2_with fail
        rw [hF, Oper.upon_enter]
        refine step.mono ?_
        rintro e w1 ⟨rfl, hb1⟩
        have hB1 := since_step hB hb1
        clear hb1
        rw [HQ.out]
        go_wp2
        go_roundw
        case rel =>
          refine ⟨k + 1, by omega, by go_num, fun j hj hjk => ?_, hB1⟩
          rcases Nat.lt_or_ge j k with h | h
          · exact hno j hj h
          · obtain rfl : j = k := by omega
            exact HQ.out
        case measure => simp [intOf]; omega
    · go_wp2
      go_ret
      exact ⟨retI (atL_none fun j hj => hno j hj (by omega)).symm, hB⟩
end
section
def Ax.Tells2 (F : Nat) (caps : Array Value) (ah : Ax → Ax → Bool) (B : Nat) (w : World) : Prop :=
  ∀ (a b : Ax) (W : World), Below B w W → Calls Tryz.prog F (#[a.val, b.val] ++ caps) W fun e w' => e = .returned (.bool (ah a b)) ∧ Below W.heap.size W w'
theorem Ax.Tells2.below {F : Nat} {caps : Array Value} {ah : Ax → Ax → Bool} {B : Nat} {w w1 : World} (h : Ax.Tells2 F caps ah B w) (hb : Below B w w1) {C : Nat} (hC : B ≤ C) : Ax.Tells2 F caps ah C w1 :=
  fun a b W hW => h a b W (hb.trans (hW.mono hC))
structure Ax.Bx (w : World) (b : Nat) (g : Ax) : Prop where
  lt : b < w.heap.size
  at_ : g.at w b 0
  hp : w.heap[b]? = some (.cells g.cells.toArray 63 (0, 0))
theorem Ax.Bx.new (w : World) (g : Ax) : Ax.Bx (w.alloc (.cells g.cells.toArray 63)) w.heap.size g := by
  have h := heap_alloc_new w (.cells g.cells.toArray 63 (0, 0))
  refine ⟨by simp, Ax.at_of fun j u hu => ?_, h⟩
  rw [Nat.zero_add, cell_of_row _ _ j g.cells.toArray 63 (0, 0) h]
  simpa using hu
theorem Ax.Bx.below {w w' : World} {b : Nat} {g : Ax} (h : Ax.Bx w b g) (hb : Below w.heap.size w w') : Ax.Bx w' b g :=
  ⟨Nat.lt_of_lt_of_le h.lt hb.size, Ax.at_keep h.at_ fun i => hb.cell (p := ⟨b, i, none⟩) h.lt, (hb.block b h.lt).trans h.hp⟩
theorem Ax.Bx.sl {w : World} {b : Nat} {g : Ax} (h : Ax.Bx w b g) : Sl w (some ⟨b, 0, none⟩) g.cells := by
  intro _
  refine ⟨b, 0, rfl, fun j u hu => ?_⟩
  rw [Nat.zero_add, cell_of_row _ _ j g.cells.toArray 63 (0, 0) h.hp]
  simpa using hu
theorem Ax.Bx.got {w : World} {b : Nat} {g : Ax} (h : Ax.Bx w b g) : w.cell? ⟨b, 0, none⟩ = some (.int .i64 g.id) ∧ w.cell? ⟨b, 1, none⟩ = some (.int .i64 g.price) ∧ w.cell? ⟨b, 2, none⟩ = some (.int .i64 g.hc) := by
  have := h.at_
  unfold Ax.at at this
  simpa only [Nat.zero_add] using this
end
section
abbrev okM (v : Ax) : Prop := okA ⟨v.id, v.price, v.hc⟩
theorem mis_any (v : Ax) (w : World) :
    Calls Tryz.prog 82 #[v.val] w fun e w' => e = .returned (.bool (decide (okM v))) ∧ Below w.heap.size w w' := arIs_any ⟨v.id, v.price, v.hc⟩ w
def ahM (x y : Ax) : Bool := decide (x.id < y.id)
def idM (id : Int) (x : Ax) : Bool := x.id == id
def findM (l : List Ax) (id : Int) : Ax := pickL (idM id) Ax.zero l
def hasM (l : List Ax) (id : Int) : Bool := (l.find? (idM id)).isSome
theorem mfind_cases (l : List Ax) (id : Int) : (hasM l id = false ∧ atL (idM id) l = -1 ∧ findM l id = Ax.zero ∧ l.find? (idM id) = none) ∨ ∃ k : Nat, ∃ hk : k < l.length, hasM l id = true ∧ atL (idM id) l = k ∧ findM l id = l[k] ∧ idM id l[k] = true ∧ ∀ j, (hj : j < k) → idM id (l[j]'(by omega)) = false := by
  rcases atL_cases (idM id) l with ⟨h0, hno⟩ | ⟨k, hk, h0, hpk, hno⟩
  · have hf := find_none hno
    exact .inl ⟨by rw [hasM, hf]; rfl, h0, by rw [findM, pickL, hf]; rfl, hf⟩
  · have hf := find_some hk hno hpk
    exact .inr ⟨k, hk, by rw [hasM, hf]; rfl, h0, by rw [findM, pickL, hf]; rfl, hpk, hno⟩
def putMR (l : List Ax) (v : Ax) : Int × List Ax := if ¬ okM v then (2, []) else if hasM l v.id = true then (12, []) else (0, putR ahM l v)
theorem mplace1_any (x : Ax) (id : Int) (b : Nat) (w : World) (h0 : w.cell? ⟨b, 0, none⟩ = some (.int .i64 id)) :
    Calls Tryz.prog 120 #[x.val, .pointer (some ⟨b, 0, none⟩)] w fun e w' => e = .returned (.bool (idM id x)) ∧ Below w.heap.size w w' := by
  have hB := since_alloc (Below.refl _ w) (.cells x.cells.toArray 63)
  have hlt := World.block_lt_of_cell? _ _ h0
  unfold Ax.val
  go_enter Tryz.func120, Tryz.ntmps120
  go_wp2_with fail
  go_ret
  exact ⟨rfl, hB⟩
theorem ent_mplace1 : Ent Tryz.prog 120 := Ent.of (by kernel_rfl)
theorem tells_mplace1 (id : Int) (b : Nat) (w : World) (h : w.cell? ⟨b, 0, none⟩ = some (.int .i64 id)) : Ax.Tells 120 #[.pointer (some ⟨b, 0, none⟩)] (idM id) w.heap.size w :=
  fun x W hW => mplace1_any x id b W ((hW.cell (p := ⟨b, 0, none⟩) (World.block_lt_of_cell? _ _ h)).trans h)
theorem mplace_any (A : Option Addr) (cap : Nat) (l : List Ax) (id : Int) (w : World) (hl : l.length ≤ 1000000) (hs : Sl w A (rc Ax.cells l)) :
    Calls Tryz.prog 108 #[.slice A l.length cap, .int .i64 id] w fun e w' => e = .returned (.int .i64 (atL (idM id) l)) ∧ Below w.heap.size w w' := by
  go_enter Tryz.func108, Tryz.ntmps108
  go_wp2_with fail
  refine (index_ax A cap l 120 #[.pointer (some ⟨w.heap.size, 0, none⟩)] (idM id) _ hl (hs.alloc _) ent_mplace1 (tells_mplace1 id w.heap.size _ (by simp))).mono ?_
  rintro e w1 ⟨rfl, hb1⟩
  have hB1 := since_step (since_alloc (Below.refl _ _) _) hb1
  clear hb1
  go_wp2_with fail
  go_ret
  exact ⟨rfl, hB1⟩
def MRes (B : Nat) (w' : World) (e : Ending) (R : Int × List Ax) : Prop :=
  ∃ A' c', e = .returned (.tuple #[.slice A' R.2.length c', .int .i64 R.1]) ∧ w'.ownsRow B 63 3 (.slice A' R.2.length c') R.2.length (rc Ax.cells R.2)
theorem MRes.nil (B : Nat) (w' : World) (n : Int) : MRes B w' (.returned (.tuple #[.slice none 0 0, .int .i64 n])) (n, []) := ⟨none, 0, rfl, own_nil _ _ _⟩
theorem boolM_ext {a b : Bool} (h : a = true ↔ b = true) : a = b := by cases a <;> cases b <;> simp_all
theorem ordM : Ord ahM where
  tr := fun a b c h1 h2 => by simp only [ahM, decide_eq_true_eq] at *; omega
  asy := fun a b h => by simp only [ahM, decide_eq_true_eq, decide_eq_false_iff_not] at *; omega
  cong := fun a x b h1 h2 => boolM_ext (by simp only [ahM, decide_eq_true_eq, decide_eq_false_iff_not] at *; omega)
  cong2 := fun a x b h1 h2 => boolM_ext (by simp only [ahM, decide_eq_true_eq, decide_eq_false_iff_not] at *; omega)
theorem idM_iff (id : Int) (x : Ax) : idM id x = true ↔ x.id = id := by simp [idM]
abbrev Sorted (l : List Ax) : Prop := l.Pairwise (fun a b => ahM a b = true)
theorem insM {l : List Ax} (h : Sorted l) (v : Ax) (hn : l.find? (idM v.id) = none) :
    l.take (l.findIdx fun y => !ahM y v) ++ v :: l.drop (l.findIdx fun y => !ahM y v) = putR ahM l v := by
  rw [← refPut_eq ordM v l h]
  have e : (l.filter fun y => !eqv ahM v y) = l := by
    rw [List.filter_eq_self]
    intro y hy
    rw [List.find?_eq_none] at hn
    have := hn y hy
    rw [idM_iff] at this
    simp only [eqv, ahM, Bool.not_eq_true', Bool.and_eq_false_iff, decide_eq_false_iff_not, decide_eq_true_eq, Bool.not_eq_false']
    omega
  unfold refPut
  rw [e]
theorem mfind_any (A : Option Addr) (cap : Nat) (l : List Ax) (id : Int) (w : World) (hl : l.length ≤ 1000000) (hs : Sl w A (rc Ax.cells l)) :
    Calls Tryz.prog 85 #[.slice A l.length cap, .int .i64 id] w fun e w' => e = .returned (.tuple #[(findM l id).val, .bool (hasM l id)]) ∧ Below w.heap.size w w' := by
  have hB0 := since_alloc (Below.refl w.heap.size w) (.cells #[.int .i64 0, .int .i64 0, .int .i64 0] 63)
  have hidx := mplace_any A cap l id (w.alloc (.cells #[.int .i64 0, .int .i64 0, .int .i64 0] 63)) hl (hs.alloc _)
  have Bz := Bk.new w #[.int .i64 0, .int .i64 0, .int .i64 0] 63
  rcases mfind_cases l id with ⟨hh, h0, hf, _⟩ | ⟨k, hk, hh, h0, hf, hpk, _⟩
  · rw [h0] at hidx
    have HH := Lib.hid hh
    have HF := Lib.hid hf
    clear hh h0 hf
    go_enter Tryz.func85, Tryz.ntmps85
    go_wp2_with fail
    refine hidx.mono ?_
    rintro e w1 ⟨rfl, hb1⟩
    have hB1 := since_step hB0 hb1
    have Bz := Bz.below hb1
    obtain ⟨lb, cb⟩ := _root_.id Bz
    have q0 := cb 0
    have q1 := cb 1
    have q2 := cb 2
    simp at q0 q1 q2
    clear cb
    have hfz : ∀ i, w1.frozen? ⟨w.heap.size, i, none⟩ = false := fun i => by rw [(hb1.frozen (p := ⟨w.heap.size, i, none⟩) (by simp))]; simp
    have hcs := @cell_set
    clear hb1 Bz hidx
    go_wp2_with fail
    refine bodyPost_ret (v := .tuple #[Ax.zero.val, .bool false]) ?_ rfl ⟨?_, ?_⟩
    · simp [results, Tryz.results85, go_sem, q0, q1, q2, hfz, Ax.zero, Ax.val]
    · rw [HF.out, HH.out]
    · repeat' (first | with_reducible exact hB1 | with_reducible refine Below.setCell ?_ ?_ _ | with_reducible refine Below.alloc ?_ ?_ _)
      all_goals first | (simp; done) | (simp; omega)
  · rw [h0] at hidx
    have HH := Lib.hid hh
    have HF := Lib.hid hf
    clear hh h0 hf hpk
    go_enter Tryz.func85, Tryz.ntmps85
    go_wp2_with fail
    refine hidx.mono ?_
    rintro e w1 ⟨rfl, hb1⟩
    have hB1 := since_step hB0 hb1
    have Bz := Bz.below hb1
    obtain ⟨lb, cb⟩ := _root_.id Bz
    have q0 := cb 0
    have q1 := cb 1
    have q2 := cb 2
    simp at q0 q1 q2
    clear cb
    have hfz : ∀ i, w1.frozen? ⟨w.heap.size, i, none⟩ = false := fun i => by rw [(hb1.frozen (p := ⟨w.heap.size, i, none⟩) (by simp))]; simp
    have hcs := @cell_set
    obtain ⟨b, o, rfl, hbw, hgat⟩ := ((hs.alloc (.cells #[.int .i64 0, .int .i64 0, .int .i64 0] 63)).below hb1).ax hk
    clear hb1 Bz hidx hs
    generalize l[k] = g at *
    obtain ⟨g0, g1, g2⟩ := hgat
    go_wp2_with fail
    refine bodyPost_ret (v := .tuple #[g.val, .bool true]) ?_ rfl ⟨?_, ?_⟩
    · simp [results, Tryz.results85, go_sem, q0, q1, q2, hfz, Ax.val]
    · rw [HF.out, HH.out]
    · repeat' (first | with_reducible exact hB1 | with_reducible refine Below.setCell ?_ ?_ _ | with_reducible refine Below.alloc ?_ ?_ _)
      all_goals first | (simp; done) | (simp; omega)
def okP (p : Int) : Prop := 0 ≤ p ∧ p ≤ 2147483647
instance (p : Int) : Decidable (okP p) := by unfold okP; infer_instance
end
section
def FindMRel (l : List Ax) (id : Int) (W0 : World) (i : Value) (wr : World) : Prop :=
  ∃ k : Nat, k ≤ l.length ∧ i = .int .i64 k ∧ (∀ j, (hj : j < l.length) → j < k → idM id l[j] = false) ∧ Below W0.heap.size W0 wr
theorem rfindm_any (A : Option Addr) (cap : Nat) (l : List Ax) (id : Int) (w : World) (hl : l.length ≤ 1000000) (hs : Sl w A (rc Ax.cells l)) :
    Calls Tryz.prog 83 #[.slice A l.length cap, .int .i64 id] w fun e w' => e = .returned (.tuple #[(findM l id).val, .bool (hasM l id)]) ∧ Below w.heap.size w w' := by
  have hB0 := since_alloc (Below.refl w.heap.size w) (.cells #[.int .i64 0, .int .i64 0, .int .i64 0] 63)
  have Bz0 := Bk.new w #[.int .i64 0, .int .i64 0, .int .i64 0] 63
  have hfz0 : ∀ i, (w.alloc (.cells #[.int .i64 0, .int .i64 0, .int .i64 0] 63)).frozen? ⟨w.heap.size, i, none⟩ = false := fun i => by simp
  have hs0 := hs.alloc (.cells #[.int .i64 0, .int .i64 0, .int .i64 0] 63)
  go_enter Tryz.func83, Tryz.ntmps83
  go_upto_region 1 with fail
  generalize hWW : w.alloc (.cells #[.int .i64 0, .int .i64 0, .int .i64 0] 63) = W0 at *
  clear hWW hs
  have hz1 : w.heap.size < W0.heap.size := Bz0.1
  have HZ : Hid (∀ V, Below W0.heap.size W0 V → Bk V w.heap.size #[.int .i64 0, .int .i64 0, .int .i64 0] ∧ ∀ i, V.frozen? ⟨w.heap.size, i, none⟩ = false) := Lib.hid fun V hV =>
    ⟨Bz0.below hV, fun i => by rw [(hV.frozen (p := ⟨w.heap.size, i, none⟩) hz1)]; exact hfz0 i⟩
  clear Bz0 hfz0
  go_wp2_with fail
  go_loopw [6] (fun i wr => FindMRel l id W0 i wr) (fun i _ => l.length - (intOf i).toNat)
  case atStart => exact ⟨0, by omega, rfl, fun j hj h => absurd h (by omega), Below.refl _ _⟩
  case round =>
    obtain ⟨k, hk, rfl, hno, hB⟩ := hrel
    have hB3 := hB0.trans (hB.mono (Nat.le_of_lt hz1))
    obtain ⟨⟨lb, cb⟩, hfz⟩ := HZ.out wr hB
    have q0 := cb 0
    have q1 := cb 1
    have q2 := cb 2
    simp at q0 q1 q2
    have hcs := @cell_set
    clear cb
    by_cases hlt2 : k < l.length
    · obtain ⟨b, o, rfl, hbw, hg⟩ := hs0.ax hlt2
      have hg1 : l[k].at wr b (o + k * 3) := Ax.at_keep (w := W0) hg fun i => hB.cell (p := ⟨b, i, none⟩) hbw
      have HX : Hid (∀ q : Bool, idM id l[k] = q → if q then findM l id = l[k] ∧ hasM l id = true else ∀ j, (hj : j < l.length) → j < k + 1 → idM id l[j] = false) := Lib.hid fun q hq => by
        cases q with
        | true =>
          have := find_some hlt2 (fun j hj => hno j (by omega) hj) hq
          exact ⟨by rw [findM, pickL, this]; rfl, by rw [hasM, this]; rfl⟩
        | false =>
          intro j hj hjk
          rcases Nat.lt_or_ge j k with h | h
          · exact hno j hj h
          · obtain rfl : j = k := by omega
            exact hq
      have hlk : (k : Int) < (l.length : Int) := by omega
      clear hg hs0 hbw hno
      generalize l[k] = v at hg1 HX
      obtain ⟨vid, room, phase⟩ := v
      obtain ⟨g0, g1, g2⟩ := hg1
      simp only at g0 g1 g2
      by_cases h1 : vid = id
      · subst h1
        have HF := Lib.hid (show findM l vid = _ ∧ hasM l vid = true by simpa using HX.out true (by simp [idM]))
        clear HX
        go_wp2_with fail
        refine bodyPost_ret (v := .tuple #[(⟨vid, room, phase⟩ : Ax).val, .bool true]) ?_ rfl ⟨?_, ?_⟩
        · simp [results, Tryz.results83, go_sem, q0, q1, q2, hfz, Ax.val]
        · rw [HF.out.1, HF.out.2]
        · repeat' (first | with_reducible exact hB3 | with_reducible refine Below.drew ?_ | with_reducible refine Below.setCell ?_ ?_ _ | with_reducible refine Below.alloc ?_ ?_ _)
          all_goals exact Nat.le_refl _
      · have HN := Lib.hid (show ∀ j, (hj : j < l.length) → j < k + 1 → idM id l[j] = false by simpa using HX.out false (by simp [idM, h1]))
        have h1b : (vid == id) = false := by simpa using h1
        clear HX h1
        go_wp2_with fail
        go_roundw
        case rel => exact ⟨k + 1, by omega, by go_num, HN.out, hB⟩
        case measure => simp [intOf]; omega
    · have hfn := find_none (p := idM id) fun j hj => hno j hj (by omega)
      have HF := Lib.hid (show findM l id = Ax.zero ∧ hasM l id = false from ⟨by rw [findM, pickL, hfn]; rfl, by rw [hasM, hfn]; rfl⟩)
      clear hno hfn HZ
      go_wp2_with fail
      refine bodyPost_ret (v := .tuple #[Ax.zero.val, .bool false]) ?_ rfl ⟨?_, ?_⟩
      · simp [results, Tryz.results83, go_sem, q0, q1, q2, hfz, Ax.val, Ax.zero]
      · rw [HF.out.1, HF.out.2]
      · repeat' (first | with_reducible exact hB3 | with_reducible refine Below.setCell ?_ ?_ _ | with_reducible refine Below.alloc ?_ ?_ _)
        all_goals exact Nat.le_refl _
end
end Go.Proofs.YtmjndpkfhdoljaaGreat
