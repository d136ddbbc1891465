import Derived.Test.YtahdmomadbbhoaaGreatDk04
import Derived.Test.YtahdmomadbbhoaaGreatDk13
import Derived.Deep.DeepCutAuto
import Derived.Deep.RegionHeld3
import Derived.Deep.RegionLaw
import Derived.Lib.SliceRun
import Derived.Test.YtahdmomadbbhoaaGreatDk02
section
namespace Go.Proofs.YtahdmomadbbhoaaGreat
open Go.ChangeShapes Go.WideShapes Go.ChangeAt Go.RowKit
set_option linter.unusedVariables false
set_option linter.unusedSimpArgs false

def idI (id : Int) (x : Iq) : Bool := x.id == id
def IRes (B : Nat) (w' : World) (e : Ending) (R : Int × List Iq) : Prop :=
  ∃ A' c', e = .returned (.tuple #[.slice A' R.2.length c', .int .i64 R.1]) ∧ w'.ownsRow B 26 5 (.slice A' R.2.length c') R.2.length (rc Iq.cells R.2)
theorem IRes.nil (B : Nat) (w' : World) (n : Int) : IRes B w' (.returned (.tuple #[.slice none 0 0, .int .i64 n])) (n, []) := ⟨none, 0, rfl, own_nil _ _ _⟩
structure GI (w : World) (g : Iq) (i : Ins) : Prop where
  id : g.id = i.id
  mult : g.mult = i.mult
  price : g.price = i.price
  nxt : g.nxt = i.nxt
  len : g.mvL = i.mv.length
  at_ : InsAt w i g.mv g.mvC
theorem GI.below {w w' : World} {g : Iq} {i : Ins} (h : GI w g i) (hb : Below w.heap.size w w') : GI w' g i := ⟨h.id, h.mult, h.price, h.nxt, h.len, h.at_.below hb⟩
theorem GI.val {w : World} {g : Iq} {i : Ins} (h : GI w g i) : g.val = insV i g.mv g.mvC := by
  obtain ⟨a, b, c, d, e, f, k⟩ := g
  obtain ⟨h0, h1, h2, h3, h4, _⟩ := h
  simp only at h0 h1 h2 h3 h4
  subst h0; subst h1; subst h2; subst h3; subst h4
  rfl
def GoodI (w : World) (l : List Iq) : Prop := ∀ g ∈ l, ∃ i : Ins, GI w g i
theorem GoodI.below {w w' : World} {l : List Iq} (h : GoodI w l) (hb : Below w.heap.size w w') : GoodI w' l := fun g hg => by
  obtain ⟨i, hi⟩ := h g hg
  exact ⟨i, hi.below hb⟩
def InTab (w : World) (l : List Iq) (is : List Ins) : Prop := l.length = is.length ∧ ∀ k, (h : k < l.length) → (h2 : k < is.length) → GI w l[k] is[k]
theorem InTab.below {w w' : World} {l : List Iq} {is : List Ins} (h : InTab w l is) (hb : Below w.heap.size w w') : InTab w' l is := ⟨h.1, fun k h1 h2 => (h.2 k h1 h2).below hb⟩
theorem InTab.nil (w : World) : InTab w [] [] := ⟨rfl, fun k h => by simp at h⟩
theorem InTab.cons {w : World} {g : Iq} {i : Ins} {l : List Iq} {is : List Ins} (h : GI w g i) (ht : InTab w l is) : InTab w (g :: l) (i :: is) :=
  ⟨by simp [ht.1], fun k h1 h2 => by
    cases k with
    | zero => exact h
    | succ k => exact ht.2 k (by simpa using h1) (by simpa using h2)⟩
theorem GoodI.tab {w : World} : ∀ {l : List Iq}, GoodI w l → ∃ is : List Ins, InTab w l is
  | [], _ => ⟨[], InTab.nil w⟩
  | g :: l, h => by
    obtain ⟨is, ht⟩ := GoodI.tab (l := l) fun x hx => h x (List.mem_cons_of_mem _ hx)
    obtain ⟨i, hi⟩ := h g List.mem_cons_self
    exact ⟨i :: is, InTab.cons hi ht⟩
def fndI (is : List Ins) (id : Int) : Option Ins := is.find? fun i => i.id == id
theorem InTab.find {w : World} (id : Int) : ∀ {l : List Iq} {is : List Ins}, InTab w l is → (l.find? (idI id) = none ∧ fndI is id = none) ∨ (∃ g i, l.find? (idI id) = some g ∧ fndI is id = some i ∧ GI w g i)
  | [], [], _ => .inl ⟨rfl, rfl⟩
  | [], _ :: _, h => by have := h.1; simp at this
  | _ :: _, [], h => by have := h.1; simp at this
  | g :: l, i :: is, h => by
    have h0 := h.2 0 (by simp) (by simp)
    have ht : InTab w l is := ⟨by simpa using h.1, fun k h1 h2 => h.2 (k + 1) (by simpa using h1) (by simpa using h2)⟩
    simp only [List.getElem_cons_zero] at h0
    unfold fndI
    rw [List.find?_cons, List.find?_cons]
    have e : idI id g = (i.id == id) := by unfold idI; rw [h0.id]
    rw [e]
    cases hq : (i.id == id) with
    | true => exact .inr ⟨g, i, rfl, rfl, h0⟩
    | false => exact InTab.find id ht
end Go.Proofs.YtahdmomadbbhoaaGreat
end
section
namespace Go.Proofs.YtahdmomadbbhoaaGreat
open Go.ChangeShapes Go.WideShapes Go.ChangeAt Go.RowKit
set_option linter.unusedVariables false
set_option linter.unusedSimpArgs false

theorem abs_mul_le {a b A B : Int} (ha : -A ≤ a ∧ a ≤ A) (hb : -B ≤ b ∧ b ≤ B) : -(A * B) ≤ a * b ∧ a * b ≤ A * B := by
  have h1 : (a.natAbs : Int) ≤ A := by omega
  have h2 : (b.natAbs : Int) ≤ B := by omega
  have h3 : ((a * b).natAbs : Int) ≤ A * B := by
    rw [Int.natAbs_mul, Int.natCast_mul]
    exact Int.mul_le_mul h1 h2 (by omega) (by omega)
  omega
theorem move_in {q m t : Int} (hq : In64 q) (hm : -2147483647 ≤ m ∧ m ≤ 2147483647) (ht : 1 ≤ t ∧ t ≤ 65536) : In64 m ∧ In64 t ∧ In128 (q * m) ∧ In128 (q * m * t) := by
  unfold In64 at hq
  have h1 := abs_mul_le (A := 9223372036854775808) (B := 2147483647) (a := q) (b := m) (by omega) (by omega)
  have h2 := abs_mul_le (A := 9223372036854775808 * 2147483647) (B := 65536) (a := q * m) (b := t) (by omega) (by omega)
  unfold In64 In128
  generalize q * m * t = z at *
  generalize q * m = y at *
  omega
set_option maxHeartbeats 2000000 in
theorem made_any (q m t : Int) (hq : In64 q) (hm : -2147483647 ≤ m ∧ m ≤ 2147483647) (ht : 1 ≤ t ∧ t ≤ 65536) (w : World) :
    Calls Tryz.prog 62 #[.int .i64 q, .int .i64 m, .int .i64 t] w fun e w' => e = .returned (.agg #[.int .i64 (hiN (q * m * t)), .int .u64 (loN (q * m * t))]) ∧ Below w.heap.size w w' := by
  obtain ⟨hm64, ht64, hin, hin2⟩ := move_in hq hm ht
  have hcs := @cell_set
  have HM := Lib.hid (fun w => wmul_any q m hq hm64 w)
  have HT := fun w => wtimes_any (q * m) t hin ht64 w
  rw [wideE_yes hin2] at HT
  have HT := Lib.hid HT
  generalize q * m * t = z at *
  generalize q * m = y at *
  clear hq hm ht hm64 ht64 hin hin2
  go_enter Tryz.func62, Tryz.ntmps62
  go_wp2_with fail
  refine (HM.out _).mono ?_
  rintro e w1 ⟨rfl, hb1⟩
  have A2 : T2 w1 w.heap.size 0 0 := (T2.new w 0 0 56).below hb1
  have hB1 := since_step (since_alloc (Below.refl _ _) _) hb1
  clear hb1
  go_wp2_with fail
  refine (HT.out _).mono ?_
  rintro e w2 ⟨rfl, hb2⟩
  have B2 := A2.below hb2
  have hB2 := since_step hB1 hb2
  have hsz := B2.1
  have hn1 : ¬ w.heap.size = w2.heap.size := by omega
  have hn2 : ¬ w2.heap.size = w.heap.size := by omega
  obtain ⟨q0, q1, q2, q3, q4⟩ := _root_.id B2
  clear hb2 A2 hB1
  go_wp2_with fail
  refine bodyPost_ret (v := .agg #[.int .i64 (hiN z), .int .u64 (loN z)]) ?_ rfl ?_
  · obtain ⟨f0, f1, f2, f3, f4⟩ := (B2.set2 (hiN z) (loN z)).alloc (.cells #[.int .i64 (hiN z), .int .u64 (loN z)] 56)
    simp [results, Tryz.results62, go_sem, f1, f2]
  · refine ⟨rfl, ?_⟩
    repeat' (first | with_reducible exact hB2 | with_reducible refine Below.setCell ?_ ?_ _ | with_reducible refine since_alloc ?_ _)
    all_goals first | (simp; done) | (simp; omega)
def gainZ (i : Ins) (q a b : Int) : Int := q * (b - a) * i.mult
def gainV (i : Ins) (q a b : Int) : Int := if okB i = true ∧ prB a = true ∧ prB b = true then fV (gainZ i q a b) else 0
def gainE (i : Ins) (q a b : Int) : Int := if okB i = true ∧ prB a = true ∧ prB b = true then fE (gainZ i q a b) else 2
theorem ok_mult {i : Ins} (h : okB i = true) : 1 ≤ i.mult ∧ i.mult ≤ 65536 := by
  unfold okB headB at h
  simp only [Bool.and_eq_true, decide_eq_true_eq] at h
  omega
theorem pr_move {a b : Int} (ha : prB a = true) (hb : prB b = true) : -2147483647 ≤ b - a ∧ b - a ≤ 2147483647 ∧ In64 (b - a) := by
  simp only [prB, Bool.and_eq_true, decide_eq_true_eq] at ha hb
  unfold In64
  omega
set_option maxRecDepth 100000 in
set_option maxHeartbeats 4000000 in
theorem gain_any (i : Ins) (A : Option Addr) (c : Nat) (q a b : Int) (w : World) (h : InsAt w i A c) (hq : In64 q) (ha : In64 a) (hb : In64 b) :
    Calls Tryz.prog 31 #[insV i A c, .int .i64 q, .int .i64 a, .int .i64 b] w fun e w' => e = .returned (.tuple #[.int .i64 (gainV i q a b), .int .i64 (gainE i q a b)]) ∧ Below w.heap.size w w' := by
  have HC := fun W (hb : Below w.heap.size w W) => check_any i A c W (h.below hb)
  have hB0 := since_alloc (Below.refl _ w) (.cells #[.int .i64 i.id, .int .i64 i.mult, .int .i64 i.price, .int .i64 i.nxt, .slice A i.mv.length c] 26)
  have hI0 := IB.new w i A c 26
  by_cases hok : okB i = true
  · rw [if_pos hok] at HC
    have HC := Lib.hid HC
    by_cases pa : prB a = true
    · by_cases pb : prB b = true
      · have e1 : gainV i q a b = fV (gainZ i q a b) := if_pos ⟨hok, pa, pb⟩
        have e2 : gainE i q a b = fE (gainZ i q a b) := if_pos ⟨hok, pa, pb⟩
        rw [e1, e2]
        have ht := ok_mult hok
        obtain ⟨hm1, hm2, hm64⟩ := pr_move pa pb
        have HMD := Lib.hid (fun w => made_any q (b - a) i.mult hq ⟨hm1, hm2⟩ ht w)
        have HI := Lib.hid (fun w => int_any (gainZ i q a b) (move_in hq ⟨hm1, hm2⟩ ht).2.2.2 w)
        have ez : q * (b - a) * i.mult = gainZ i q a b := rfl
        rw [ez] at HMD
        have PA := Lib.hid pa
        have PB := Lib.hid pb
        have HI0 := Lib.hid hI0
        unfold In64 at hm64
        clear e1 e2 ez hok pa pb ht hI0 h
        generalize gainZ i q a b = z at *
        unfold insV
        go_enter Tryz.func31, Tryz.ntmps31
        go_wp2_with fail
        refine (HC.out _ hB0).mono ?_
        rintro e w1 ⟨rfl, hb1⟩
        have I1 := HI0.out.below hb1
        have hB1 := since_step hB0 hb1
        clear hb1
        go_wp2_with fail
        refine (priced_any _ _).mono ?_
        rintro e w2 ⟨rfl, rfl⟩
        rw [PA.out]
        go_wp2_with fail
        refine (priced_any _ _).mono ?_
        rintro e w2 ⟨rfl, rfl⟩
        rw [PB.out]
        obtain ⟨i0, i1, i2, i3, i4, i5⟩ := _root_.id I1
        go_wp2_with fail
        refine (HMD.out _).mono ?_
        rintro e w3 ⟨rfl, hb3⟩
        have hB3 := since_step hB1 hb3
        clear hb3
        go_wp2_with fail
        refine (HI.out _).mono ?_
        rintro e w4 ⟨rfl, hb4⟩
        have hB4 := since_step hB3 hb4
        go_wp2_with fail
        go_ret2
        exact ⟨rfl, hB4⟩
      · have e1 : gainV i q a b = 0 := if_neg fun h => pb h.2.2
        have e2 : gainE i q a b = 2 := if_neg fun h => pb h.2.2
        rw [e1, e2]
        have PA := Lib.hid pa
        have PB := Lib.hid (show prB b = false by simpa using pb)
        clear e1 e2 hok pa pb h
        unfold insV
        go_enter Tryz.func31, Tryz.ntmps31
        go_wp2_with fail
        refine (HC.out _ hB0).mono ?_
        rintro e w1 ⟨rfl, hb1⟩
        have hB1 := since_step hB0 hb1
        clear hb1
        go_wp2_with fail
        refine (priced_any _ _).mono ?_
        rintro e w2 ⟨rfl, rfl⟩
        rw [PA.out]
        go_wp2_with fail
        refine (priced_any _ _).mono ?_
        rintro e w2 ⟨rfl, rfl⟩
        rw [PB.out]
        go_wp2_with fail
        go_ret2
        exact ⟨rfl, hB1⟩
    · have e1 : gainV i q a b = 0 := if_neg fun h => pa h.2.1
      have e2 : gainE i q a b = 2 := if_neg fun h => pa h.2.1
      rw [e1, e2]
      have PA := Lib.hid (show prB a = false by simpa using pa)
      clear e1 e2 hok pa h
      unfold insV
      go_enter Tryz.func31, Tryz.ntmps31
      go_wp2_with fail
      refine (HC.out _ hB0).mono ?_
      rintro e w1 ⟨rfl, hb1⟩
      have hB1 := since_step hB0 hb1
      clear hb1
      go_wp2_with fail
      refine (priced_any _ _).mono ?_
      rintro e w2 ⟨rfl, rfl⟩
      rw [PA.out]
      go_wp2_with fail
      go_ret2
      exact ⟨rfl, hB1⟩
  · have e1 : gainV i q a b = 0 := if_neg fun h => hok h.1
    have e2 : gainE i q a b = 2 := if_neg fun h => hok h.1
    rw [e1, e2]
    rw [if_neg hok] at HC
    have HC := Lib.hid HC
    clear e1 e2 hok h
    unfold insV
    go_enter Tryz.func31, Tryz.ntmps31
    go_wp2_with fail
    refine (HC.out _ hB0).mono ?_
    rintro e w1 ⟨rfl, hb1⟩
    have hB1 := since_step hB0 hb1
    go_wp2_with fail
    go_ret2
    exact ⟨rfl, hB1⟩
end Go.Proofs.YtahdmomadbbhoaaGreat
end
section
namespace Go.Proofs.YtahdmomadbbhoaaGreat
open Go.ChangeShapes Go.WideShapes Go.ChangeAt Go.RowKit
set_option linter.unusedVariables false
set_option linter.unusedSimpArgs false

theorem T2.far2 {w w' : World} {B g : Nat} {a b : Int} (h : T2 w g a b) (hb : Below B w w') (hg : g < B) : T2 w' g a b := by
  obtain ⟨h0, h1, h2, h3, h4⟩ := h
  exact ⟨Nat.lt_of_lt_of_le h0 hb.size, (hb.cell (p := ⟨g, 0, none⟩) hg).trans h1, (hb.cell (p := ⟨g, 1, none⟩) hg).trans h2, (hb.frozen (p := ⟨g, 0, none⟩) hg).trans h3, (hb.frozen (p := ⟨g, 1, none⟩) hg).trans h4⟩
end Go.Proofs.YtahdmomadbbhoaaGreat
end
section
namespace Go.Proofs.YtahdmomadbbhoaaGreat
open Go.ChangeShapes Go.WideShapes Go.ChangeAt Go.RowKit
set_option linter.unusedVariables false
set_option linter.unusedSimpArgs false

structure Lg where
  (ins : Int) (qty : Int)
deriving DecidableEq
def Lg.cells (g : Lg) : List Value := [.int .i64 g.ins, .int .i64 g.qty]
def Lg.val (g : Lg) : Value := .agg #[.int .i64 g.ins, .int .i64 g.qty]
def Lg.zero : Lg := ⟨0, 0⟩
theorem Lg.len (g : Lg) : g.cells.length = 2 := rfl
theorem Lg.one (g : Lg) : ∀ u ∈ g.cells, u.oneCell' = true := by
  intro u hu
  simp only [Lg.cells, List.mem_cons, List.not_mem_nil, or_false] at hu
  rcases hu with h | h <;> subst h <;> rfl
def Lg.at (g : Lg) (w : World) (b o : Nat) : Prop :=
  w.cell? ⟨b, o, none⟩ = some (.int .i64 g.ins) ∧ w.cell? ⟨b, o + 1, none⟩ = some (.int .i64 g.qty)
theorem Lg.at_of {w : World} {b o : Nat} {g : Lg} (h : ∀ j u, g.cells[j]? = some u → w.cell? ⟨b, o + j, none⟩ = some u) : g.at w b o :=
  ⟨h 0 _ rfl, h 1 _ rfl⟩
theorem Lg.at_keep {w w' : World} {b o : Nat} {g : Lg} (h : g.at w b o) (k : ∀ i, w'.cell? ⟨b, i, none⟩ = w.cell? ⟨b, i, none⟩) : g.at w' b o := by
  unfold Lg.at at *
  simp only [k]
  exact h
theorem Sl.lg {w : World} {A : Option Addr} {l : List Lg} (h : Sl w A (rc Lg.cells l)) {k : Nat} (hk : k < l.length) : ∃ b o, A = some ⟨b, o, none⟩ ∧ b < w.heap.size ∧ l[k].at w b (o + k * 2) := by
  obtain ⟨b, o, hA, hb, hc⟩ := Sl.elem (m := 2) Lg.len (by decide) h hk
  exact ⟨b, o, hA, hb, Lg.at_of hc⟩
theorem ELg : Elem Tryz.prog 59 75 2 16 := Elem.mk' (z := .agg #[.int .i64 0, .int .i64 0]) (by kernel_rfl) (by kernel_rfl) (by decide) (by decide)
def Lg.Tells (F : Nat) (caps : Array Value) (p : Lg → Bool) (B : Nat) (w : World) : Prop :=
  ∀ (g : Lg) (W : World), Below B w W → Calls Tryz.prog F (#[g.val] ++ caps) W fun e w' => e = .returned (.bool (p g)) ∧ Below W.heap.size W w'
theorem Lg.Tells.below {F : Nat} {caps : Array Value} {p : Lg → Bool} {B : Nat} {w w1 : World} (h : Lg.Tells F caps p B w) (hb : Below B w w1) {C : Nat} (hC : B ≤ C) : Lg.Tells F caps p C w1 :=
  fun g W hW => h g W (hb.trans (hW.mono hC))
set_option maxHeartbeats 1000000 in
set_option maxRecDepth 100000 in
theorem index_lg (A : Option Addr) (cap : Nat) (l : List Lg) (F : Nat) (caps : Array Value) (p : Lg → Bool) (w : World) (hl : l.length ≤ 1000000) (hs : Sl w A (rc Lg.cells l)) (hF : Ent Tryz.prog F) (hp : Lg.Tells F caps p w.heap.size w) :
    Calls Tryz.prog 122 #[.slice A l.length cap, .func (.func F) #[] caps] w fun e w' => e = .returned (.int .i64 (atL p l)) ∧ Below w.heap.size w w' := by
  go_enter Tryz.func122, Tryz.ntmps122
  go_wp2
  go_loopw [8] (fun i wr => ∃ k : Nat, k ≤ l.length ∧ i = .int .i64 k ∧ (∀ j, (hj : j < l.length) → j < k → p l[j] = false) ∧ Below w.heap.size w wr) (fun i _ => l.length - (intOf i).toNat)
  case atStart => exact ⟨0, by omega, rfl, fun j hj h => absurd h (by omega), Below.refl _ _⟩
  case round =>
    obtain ⟨k, hk, rfl, hno, hB⟩ := hrel
    by_cases hlt2 : k < l.length
    · obtain ⟨b, o, rfl, hbw, hg⟩ := hs.lg hlt2
      have hg1 : l[k].at wr b (o + k * 2) := Lg.at_keep (w := w) hg fun i => hB.cell (p := ⟨b, i, none⟩) hbw
      obtain ⟨g0, g1⟩ := hg1
      have hbr : b < wr.heap.size := Nat.lt_of_lt_of_le hbw hB.size
      have step := hp l[k] wr hB
      cases hq : p l[k] with
      | true =>
        have HQ := Lib.hid hq
        go_wp2_with fail
        rw [hF, Oper.upon_enter]
        refine step.mono ?_
        rintro e w1 ⟨rfl, hb1⟩
        have hB1 := since_step hB hb1
        clear hb1
        rw [HQ.out]
        go_wp2
        go_ret
        exact ⟨retI (atL_some hlt2 (fun j hj => hno j (by omega) hj) HQ.out).symm, hB1⟩
      | false =>
        have HQ := Lib.hid hq
        go_wp2_with fail
        rw [hF, Oper.upon_enter]
        refine step.mono ?_
        rintro e w1 ⟨rfl, hb1⟩
        have hB1 := since_step hB hb1
        clear hb1
        rw [HQ.out]
        go_wp2
        go_roundw
        case rel =>
          refine ⟨k + 1, by omega, by go_num, fun j hj hjk => ?_, hB1⟩
          rcases Nat.lt_or_ge j k with h | h
          · exact hno j hj h
          · obtain rfl : j = k := by omega
            exact HQ.out
        case measure => simp [intOf]; omega
    · go_wp2
      go_ret
      exact ⟨retI (atL_none fun j hj => hno j hj (by omega)).symm, hB⟩
set_option maxHeartbeats 1000000 in
set_option maxRecDepth 100000 in
theorem clone_lg (A : Option Addr) (cap : Nat) (l : List Lg) (w : World) (hl : l.length ≤ 1000000) (hs : Sl w A (rc Lg.cells l)) :
    Calls Tryz.prog 52 #[.slice A l.length cap] w fun e w' => (∃ A' c', e = .returned (.slice A' l.length c') ∧ w'.ownsRow w.heap.size 75 2 (.slice A' l.length c') l.length (rc Lg.cells l)) ∧ Below w.heap.size w w' := by
  cases A with
  | none =>
    have hn : l = [] := by
      cases l with
      | nil => rfl
      | cons g m => obtain ⟨b, o, e, _⟩ := hs.lg (k := 0) (by simp); cases e
    subst hn
    have hnil := fun w : World => Go.Lib.run_eql_slice_nil (P := Tryz.prog) w 59 75 none 0 cap 0 0 ELg.und
    go_enter Tryz.func52, Tryz.ntmps52
    go_wp2_with fail
    go_ret
    exact ⟨⟨none, 0, rfl, own_nil _ _ _⟩, Below.refl _ _⟩
  | some ad =>
    have hnil := fun w : World => Go.Lib.run_eql_slice_nil (P := Tryz.prog) w 59 75 (some ad) l.length cap 0 0 ELg.und
    go_enter Tryz.func52, Tryz.ntmps52
    go_wp2_with (first
      | (at_builtin; refine wpList_app rfl (.tmp 5) (.tmp 6) rfl ELg rfl rfl (World.ownsRow_made (w := w) #[] 0 (Nat.le_refl _) (Nat.zero_le _) rfl) (rc_length Lg.len l) (hs.alloc _) (rc_one Lg.one l) (by unfold maxLen; omega) (by omega) (by simp) ?_; intro A2 c2 w2 hown2 hg2 hb2; simp only [Nat.zero_add, List.nil_append] at hown2)
      | fail)
    refine bodyPost_ret (results_tmp rfl _ _ _) rfl ⟨⟨A2, c2, by simp, by simpa using hown2⟩, ?_⟩
    exact Below.trans ((Below.refl _ _).alloc (Nat.le_refl _) _) hb2
end Go.Proofs.YtahdmomadbbhoaaGreat
end
