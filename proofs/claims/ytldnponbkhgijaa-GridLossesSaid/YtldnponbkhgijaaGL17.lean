import Derived.Deep.DeepCutAuto
import Derived.Deep.RegionHeld3
import Derived.Test.YtldnponbkhgijaaGL16
import Derived.Deep.RegionLaw
import Derived.Lib.SliceRun
import Derived.Test.YtldnponbkhgijaaGL02
section
namespace Go.Proofs.Ytldnponbkhgijaa
open Go.ChangeShapes Go.WideShapes Go.ChangeAt Go.RowKit
set_option linter.unusedVariables false
set_option linter.unusedSimpArgs false

def shockZ (i : Ins) (q s : Int) : Int := if okB i = true ∧ 0 ≤ s ∧ s < (i.mv.length : Int) then q * i.mv.getD s.toNat 0 * i.mult else 0
set_option maxRecDepth 100000 in
set_option maxHeartbeats 4000000 in
theorem shock_any (i : Ins) (A : Option Addr) (c : Nat) (q s : Int) (w : World) (h : InsAt w i A c) (hq : In64 q) (hs64 : In64 s) :
    Calls Try.prog 108 #[insV i A c, .int .i64 q, .int .i64 s] w fun e w' => e = .returned (.agg #[.int .i64 (hiN (shockZ i q s)), .int .u64 (loN (shockZ i q s))]) ∧ Below w.heap.size w w' := by
  have HC := fun W (hb : Below w.heap.size w W) => check_any i A c W (h.below hb)
  have hB0 := since_alloc (Below.refl _ w) (.cells #[.int .i64 i.id, .int .i64 i.mult, .int .i64 i.price, .int .i64 i.nxt, .slice A i.mv.length c] 153)
  have hI0 := IB.new w i A c 153
  have hB1 := since_alloc hB0 (.cells #[.int .i64 0, .int .u64 0] 28)
  have hI1 := hI0.below ((Below.refl _ _).alloc (Nat.le_refl _) (.cells #[.int .i64 0, .int .u64 0] 28))
  have hT1 := T2.new (w.alloc (.cells #[.int .i64 i.id, .int .i64 i.mult, .int .i64 i.price, .int .i64 i.nxt, .slice A i.mv.length c] 153)) 0 0 28
  rw [World.size_alloc] at hT1
  obtain ⟨z1, z2, z3⟩ := zero_parts
  have HI1 := Lib.hid hI1
  have HT1 := Lib.hid hT1
  have HB1 := Lib.hid hB1
  clear hI0 hI1 hT1 hB0 hB1
  by_cases hg : okB i = true ∧ 0 ≤ s ∧ s < (i.mv.length : Int)
  · obtain ⟨hok, hs0, hsl⟩ := hg
    obtain ⟨k, rfl⟩ := Int.eq_ofNat_of_zero_le hs0
    have hk : k < i.mv.length := by omega
    have ez : shockZ i q (k : Int) = q * i.mv[k] * i.mult := by
      unfold shockZ
      rw [if_pos ⟨hok, hs0, hsl⟩, Int.toNat_natCast, List.getD_eq_getElem?_getD, List.getElem?_eq_getElem hk]
      rfl
    rw [ez]
    rw [if_pos hok] at HC
    have HC := Lib.hid HC
    have HMD := Lib.hid (fun w => made_any q i.mv[k] i.mult hq (ok_move hok hk) (ok_mult hok) w)
    obtain ⟨b, o, rfl, hz0⟩ := h.sl.int hk
    have hbw := World.block_lt_of_cell? _ _ hz0
    generalize q * i.mv[k] * i.mult = z at *
    generalize i.mv[k] = m at *
    have HZ0 := Lib.hid hz0
    clear hok hs0 ez h hz0
    unfold insV
    go_enter Try.func108, Try.ntmps108
    go_wp2_with fail
    refine (HC.out _ HB1.out).mono ?_
    rintro e w1 ⟨rfl, hb1⟩
    have I1 := HI1.out.below hb1
    have T1 := HT1.out.below hb1
    have hB1 := since_step HB1.out hb1
    clear hb1 HI1 HT1 HB1
    obtain ⟨i0, i1, i2, i3, i4, i5⟩ := _root_.id I1
    have hz := (hB1.cell (p := ⟨b, o + k, none⟩) hbw).trans HZ0.out
    have hbr := World.block_lt_of_cell? _ _ hz
    obtain ⟨q0, q1, q2, q3, q4⟩ := _root_.id T1
    go_upto_region 3 with fail
    go_region_with (first
      | (go_at_call 168; refine (HMD.out _).mono ?_; rintro e w2 ⟨rfl, hb2⟩; have T2' := T1.drew.below hb2; have hB2 := since_step hB1.drew hb2; obtain ⟨q0, q1, q2, q3, q4⟩ := _root_.id T2'; clear hb2))
    all_goals
      go_wp2_with fail
      refine bodyPost_ret (v := .agg #[.int .i64 (hiN z), .int .u64 (loN z)]) ?_ rfl ?_
      · obtain ⟨f0, f1, f2, f3, f4⟩ := T2'.set2 (hiN z) (loN z)
        simp [results, Try.results108, go_sem, f1, f2]
      · refine ⟨rfl, ?_⟩
        refine Below.setCell (Below.setCell hB2 ?_ _) ?_ _ <;> first | (simp; done) | (simp; omega)
  · have ez : shockZ i q s = 0 := if_neg hg
    rw [ez, z1, z2]
    by_cases hok : okB i = true
    · have hgs : s < 0 ∨ (¬ s < 0 ∧ (i.mv.length : Int) ≤ s) := by
        rcases Int.lt_or_le s 0 with h1 | h1
        · exact Or.inl h1
        · exact Or.inr ⟨by omega, by refine Decidable.byContradiction fun h2 => hg ⟨hok, h1, by omega⟩⟩
      rw [if_pos hok] at HC
      have HC := Lib.hid HC
      clear hg ez hok
      rcases hgs with hs1 | ⟨hs1, hs2⟩
      all_goals
        unfold insV
        go_enter Try.func108, Try.ntmps108
        go_wp2_with fail
        refine (HC.out _ HB1.out).mono ?_
        rintro e w1 ⟨rfl, hb1⟩
        have I1 := HI1.out.below hb1
        have T1 := HT1.out.below hb1
        have hB1 := since_step HB1.out hb1
        clear hb1 HI1 HT1 HB1
        obtain ⟨i0, i1, i2, i3, i4, i5⟩ := _root_.id I1
        obtain ⟨q0, q1, q2, q3, q4⟩ := _root_.id T1
        go_wp2_with fail
        refine bodyPost_ret (v := .agg #[.int .i64 0, .int .u64 0]) ?_ rfl ?_
        · obtain ⟨f0, f1, f2, f3, f4⟩ := T1.set2 0 0
          simp [results, Try.results108, go_sem, f1, f2]
        · refine ⟨rfl, ?_⟩
          refine Below.setCell (Below.setCell hB1 ?_ _) ?_ _ <;> first | (simp; done) | (simp; omega)
    · rw [if_neg hok] at HC
      have HC := Lib.hid HC
      clear hg ez hok
      unfold insV
      go_enter Try.func108, Try.ntmps108
      go_wp2_with fail
      refine (HC.out _ HB1.out).mono ?_
      rintro e w1 ⟨rfl, hb1⟩
      have I1 := HI1.out.below hb1
      have T1 := HT1.out.below hb1
      have hB1 := since_step HB1.out hb1
      clear hb1 HI1 HT1 HB1
      obtain ⟨i0, i1, i2, i3, i4, i5⟩ := _root_.id I1
      obtain ⟨q0, q1, q2, q3, q4⟩ := _root_.id T1
      go_wp2_with fail
      refine bodyPost_ret (v := .agg #[.int .i64 0, .int .u64 0]) ?_ rfl ?_
      · obtain ⟨f0, f1, f2, f3, f4⟩ := T1.set2 0 0
        simp [results, Try.results108, go_sem, f1, f2]
      · refine ⟨rfl, ?_⟩
        refine Below.setCell (Below.setCell hB1 ?_ _) ?_ _ <;> first | (simp; done) | (simp; omega)
end Go.Proofs.Ytldnponbkhgijaa
end
section
namespace Go.Proofs.Ytldnponbkhgijaa
open Go.ChangeShapes Go.WideShapes Go.ChangeAt Go.RowKit
set_option linter.unusedVariables false
set_option linter.unusedSimpArgs false

structure Lg where
  (ins : Int) (qty : Int)
deriving DecidableEq
def Lg.cells (g : Lg) : List Value := [.int .i64 g.ins, .int .i64 g.qty]
def Lg.val (g : Lg) : Value := .agg #[.int .i64 g.ins, .int .i64 g.qty]
def Lg.zero : Lg := ⟨0, 0⟩
theorem Lg.len (g : Lg) : g.cells.length = 2 := rfl
theorem Lg.one (g : Lg) : ∀ u ∈ g.cells, u.oneCell' = true := by
  intro u hu
  simp only [Lg.cells, List.mem_cons, List.not_mem_nil, or_false] at hu
  rcases hu with h | h <;> subst h <;> rfl
def Lg.at (g : Lg) (w : World) (b o : Nat) : Prop :=
  w.cell? ⟨b, o, none⟩ = some (.int .i64 g.ins) ∧ w.cell? ⟨b, o + 1, none⟩ = some (.int .i64 g.qty)
theorem Lg.at_of {w : World} {b o : Nat} {g : Lg} (h : ∀ j u, g.cells[j]? = some u → w.cell? ⟨b, o + j, none⟩ = some u) : g.at w b o :=
  ⟨h 0 _ rfl, h 1 _ rfl⟩
theorem Lg.at_keep {w w' : World} {b o : Nat} {g : Lg} (h : g.at w b o) (k : ∀ i, w'.cell? ⟨b, i, none⟩ = w.cell? ⟨b, i, none⟩) : g.at w' b o := by
  unfold Lg.at at *
  simp only [k]
  exact h
theorem Sl.lg {w : World} {A : Option Addr} {l : List Lg} (h : Sl w A (rc Lg.cells l)) {k : Nat} (hk : k < l.length) : ∃ b o, A = some ⟨b, o, none⟩ ∧ b < w.heap.size ∧ l[k].at w b (o + k * 2) := by
  obtain ⟨b, o, hA, hb, hc⟩ := Sl.elem (m := 2) Lg.len (by decide) h hk
  exact ⟨b, o, hA, hb, Lg.at_of hc⟩
def Lg.Tells (F : Nat) (caps : Array Value) (p : Lg → Bool) (B : Nat) (w : World) : Prop :=
  ∀ (g : Lg) (W : World), Below B w W → Calls Try.prog F (#[g.val] ++ caps) W fun e w' => e = .returned (.bool (p g)) ∧ Below W.heap.size W w'
theorem Lg.Tells.below {F : Nat} {caps : Array Value} {p : Lg → Bool} {B : Nat} {w w1 : World} (h : Lg.Tells F caps p B w) (hb : Below B w w1) {C : Nat} (hC : B ≤ C) : Lg.Tells F caps p C w1 :=
  fun g W hW => h g W (hb.trans (hW.mono hC))
end Go.Proofs.Ytldnponbkhgijaa
end
section
namespace Go.Proofs.Ytldnponbkhgijaa
open Go.ChangeShapes Go.WideShapes Go.ChangeAt Go.RowKit
set_option linter.unusedVariables false
set_option linter.unusedSimpArgs false

def Lg.Tells2 (F : Nat) (caps : Array Value) (ah : Lg → Lg → Bool) (B : Nat) (w : World) : Prop :=
  ∀ (a b : Lg) (W : World), Below B w W → Calls Try.prog F (#[a.val, b.val] ++ caps) W fun e w' => e = .returned (.bool (ah a b)) ∧ Below W.heap.size W w'
theorem Lg.Tells2.below {F : Nat} {caps : Array Value} {ah : Lg → Lg → Bool} {B : Nat} {w w1 : World} (h : Lg.Tells2 F caps ah B w) (hb : Below B w w1) {C : Nat} (hC : B ≤ C) : Lg.Tells2 F caps ah C w1 :=
  fun a b W hW => h a b W (hb.trans (hW.mono hC))
structure Lg.Bx (w : World) (b : Nat) (g : Lg) : Prop where
  lt : b < w.heap.size
  at_ : g.at w b 0
  hp : w.heap[b]? = some (.cells g.cells.toArray 138 (0, 0))
theorem Lg.Bx.new (w : World) (g : Lg) : Lg.Bx (w.alloc (.cells g.cells.toArray 138)) w.heap.size g := by
  have h := heap_alloc_new w (.cells g.cells.toArray 138 (0, 0))
  refine ⟨by simp, Lg.at_of fun j u hu => ?_, h⟩
  rw [Nat.zero_add, cell_of_row _ _ j g.cells.toArray 138 (0, 0) h]
  simpa using hu
theorem Lg.Bx.below {w w' : World} {b : Nat} {g : Lg} (h : Lg.Bx w b g) (hb : Below w.heap.size w w') : Lg.Bx w' b g :=
  ⟨Nat.lt_of_lt_of_le h.lt hb.size, Lg.at_keep h.at_ fun i => hb.cell (p := ⟨b, i, none⟩) h.lt, (hb.block b h.lt).trans h.hp⟩
theorem Lg.Bx.sl {w : World} {b : Nat} {g : Lg} (h : Lg.Bx w b g) : Sl w (some ⟨b, 0, none⟩) g.cells := by
  intro _
  refine ⟨b, 0, rfl, fun j u hu => ?_⟩
  rw [Nat.zero_add, cell_of_row _ _ j g.cells.toArray 138 (0, 0) h.hp]
  simpa using hu
theorem Lg.Bx.got {w : World} {b : Nat} {g : Lg} (h : Lg.Bx w b g) : w.cell? ⟨b, 0, none⟩ = some (.int .i64 g.ins) ∧ w.cell? ⟨b, 1, none⟩ = some (.int .i64 g.qty) := by
  have := h.at_
  unfold Lg.at at this
  simpa only [Nat.zero_add] using this
set_option maxHeartbeats 1000000 in
set_option maxRecDepth 100000 in
theorem rising_lg (A : Option Addr) (cap : Nat) (l : List Lg) (F : Nat) (caps : Array Value) (ah : Lg → Lg → Bool) (w : World) (hl : l.length ≤ 1000000) (hs : Sl w A (rc Lg.cells l)) (hF : Ent Try.prog F) (hp : Lg.Tells2 F caps ah w.heap.size w) :
    Calls Try.prog 148 #[.slice A l.length cap, .func (.func F) #[] caps] w fun e w' => e = .returned (.bool (risingL ah l)) ∧ Below w.heap.size w w' := by
  go_enter Try.func148, Try.ntmps148
  go_wp2_with fail
  go_loopw [5] (fun i wr => ∃ k : Nat, i = .int .i64 ((k : Int) + 1) ∧ (k ≤ l.length) ∧ (∀ j, (hj : j + 1 < l.length) → j < k → ah (l[j]'(by omega)) l[j + 1] = true) ∧ Below w.heap.size w wr) (fun i _ => l.length + 1 - (intOf i).toNat)
  case atStart => exact ⟨0, by first | rfl | go_num, by omega, fun j hj h => absurd h (by omega), Below.refl _ _⟩
  case round =>
    obtain ⟨k, rfl, hk, hno, hB⟩ := hrel
    by_cases hlt2 : k + 1 < l.length
    · have hkl : k < l.length := by omega
      obtain ⟨b, o, rfl, hbw, hg⟩ := hs.lg hkl
      obtain ⟨b', o', e, hbw', hg'⟩ := hs.lg hlt2
      injection e with e
      injection e with e1 e2 e3
      subst e1; subst e2
      have hg1 : l[k].at wr b (o + k * 2) := Lg.at_keep (w := w) hg fun i => hB.cell (p := ⟨b, i, none⟩) hbw
      have hg2 : l[k + 1].at wr b (o + (k + 1) * 2) := Lg.at_keep (w := w) hg' fun i => hB.cell (p := ⟨b, i, none⟩) hbw
      have HG1 := Lib.hid hg1
      have HG2 := Lib.hid hg2
      have hbr : b < wr.heap.size := Nat.lt_of_lt_of_le hbw hB.size
      have HK : Hid (∀ V, Below wr.heap.size wr V → l[k].at V b (o + k * 2) ∧ l[k + 1].at V b (o + (k + 1) * 2)) := Lib.hid fun V hV =>
        ⟨Lg.at_keep (w := wr) HG1.out fun i => hV.cell (p := ⟨b, i, none⟩) hbr, Lg.at_keep (w := wr) HG2.out fun i => hV.cell (p := ⟨b, i, none⟩) hbr⟩
      have HP : Hid (∀ V, Below wr.heap.size wr V → _) := Lib.hid fun V hV => hp l[k] l[k + 1] V (since_step hB hV)
      obtain ⟨q, hq⟩ : ∃ q, ah l[k] l[k + 1] = q := ⟨_, rfl⟩
      have HXq : Hid (if q then (∀ j, (hj : j + 1 < l.length) → j < k + 1 → ah (l[j]'(by omega)) l[j + 1] = true) else risingL ah l = false) := Lib.hid (by
        cases q with
        | true =>
          intro j hj hjk
          rcases Nat.lt_or_ge j k with h | h
          · exact hno j hj h
          · obtain rfl : j = k := by omega
            exact hq
        | false => exact risingL_false hlt2 hq)
      have HQ := Lib.hid hq
      clear hno hp hg hg' hg1 hg2 HG1 HG2 hq
      generalize l[k] = ga at HK HP HQ
      generalize l[k + 1] = gb at HK HP HQ
      have hw0 : IntKind.i64.wrap (k : Int) = (k : Int) := by rw [IntKind.wrap_i64]; omega
      have hw2 : IntKind.i64.wrap ((k : Int) + 1 + 1) = (k : Int) + 1 + 1 := by rw [IntKind.wrap_i64]; omega
      have hn0 : (0 : Int) ≤ (k : Int) := by omega
      have hn1 : (0 : Int) ≤ (k : Int) + 1 := by omega
      have htn : ((k : Int) + 1).toNat = k + 1 := by omega
      have hlt3 : (k : Int) + 1 < (l.length : Int) := by omega
      clear hs hbw hbw'
      go_wp2_with fail
      refine wp_region_held_drew (S := (fun V => Below wr.heap.size wr V)) (by kernel_rfl) (by exact (Below.refl _ _).drew) (fun hHeld => ?_)
      refine wpAnyH_take (i := 0) (oi := { dst := some 12, op := _, type := _, pos := _, after := _, guard := _ }) (v := ?_) rfl (by kernel_rfl) (by kernel_rfl) (by kernel_rfl) (fun _ _ _ h => h) (Or.inl ⟨by rfl, ?_⟩) hHeld ?_
      rotate_left
      · (intro w hSw; obtain ⟨⟨g0, g1⟩, h0, h1⟩ := HK.out _ hSw; go_simp <;> with_reducible rfl)
      try simp only [Act.put, List.setIfInBounds_toArray, List.set_cons_zero, List.set_cons_succ]
      refine wpAnyH_take (i := 1) (oi := { dst := some 13, op := _, type := _, pos := _, after := _, guard := _ }) (v := ?_) rfl (by kernel_rfl) (by kernel_rfl) (by kernel_rfl) (fun _ _ _ h => h) (Or.inl ⟨by rfl, ?_⟩) hHeld ?_
      rotate_left
      · (intro w hSw; obtain ⟨⟨g0, g1⟩, h0, h1⟩ := HK.out _ hSw; go_simp <;> with_reducible rfl)
      try simp only [Act.put, List.setIfInBounds_toArray, List.set_cons_zero, List.set_cons_succ]
      refine wpAnyH_take (i := 2) (oi := { dst := some 14, op := _, type := _, pos := _, after := _, guard := _ }) (v := ?_) rfl (by kernel_rfl) (by kernel_rfl) (by kernel_rfl) (fun _ _ _ h => h) (Or.inl ⟨by rfl, ?_⟩) hHeld ?_
      rotate_left
      · (intro w hSw; obtain ⟨⟨g0, g1⟩, h0, h1⟩ := HK.out _ hSw; go_simp <;> with_reducible rfl)
      try simp only [Act.put, List.setIfInBounds_toArray, List.set_cons_zero, List.set_cons_succ]
      refine wpAnyH_take (i := 3) (oi := { dst := some 15, op := _, type := _, pos := _, after := _, guard := _ }) (v := ?_) rfl (by kernel_rfl) (by kernel_rfl) (by kernel_rfl) (fun _ _ _ h => h) (Or.inl ⟨by rfl, ?_⟩) hHeld ?_
      rotate_left
      · (intro w hSw; obtain ⟨⟨g0, g1⟩, h0, h1⟩ := HK.out _ hSw; go_simp <;> with_reducible rfl)
      try simp only [Act.put, List.setIfInBounds_toArray, List.set_cons_zero, List.set_cons_succ]
      refine wpAnyH_take (i := 4) (oi := { dst := some 16, op := _, type := _, pos := _, after := _, guard := _ }) (v := ?_) rfl (by kernel_rfl) (by kernel_rfl) (by kernel_rfl) (fun _ _ _ h => h) (Or.inl ⟨by rfl, ?_⟩) hHeld ?_
      rotate_left
      · (intro w hSw; obtain ⟨⟨g0, g1⟩, h0, h1⟩ := HK.out _ hSw; go_simp <;> with_reducible rfl)
      try simp only [Act.put, List.setIfInBounds_toArray, List.set_cons_zero, List.set_cons_succ]
      refine wpAnyH_take (i := 5) (oi := { dst := some 17, op := _, type := _, pos := _, after := _, guard := _ }) (v := ?_) rfl (by kernel_rfl) (by kernel_rfl) (by kernel_rfl) (fun _ _ _ h => h) (Or.inl ⟨by rfl, ?_⟩) hHeld ?_
      rotate_left
      · (intro w hSw; obtain ⟨⟨g0, g1⟩, h0, h1⟩ := HK.out _ hSw; go_simp <;> with_reducible rfl)
      try simp only [Act.put, List.setIfInBounds_toArray, List.set_cons_zero, List.set_cons_succ]
      refine wpAnyH_take (i := 6) (oi := { dst := some 18, op := _, type := _, pos := _, after := _, guard := _ }) (v := ?_) rfl (by kernel_rfl) (by kernel_rfl) (by kernel_rfl) (fun _ _ _ h => h) (Or.inl ⟨by rfl, ?_⟩) hHeld ?_
      rotate_left
      · (intro w hSw; obtain ⟨⟨g0, g1⟩, h0, h1⟩ := HK.out _ hSw; go_simp <;> with_reducible rfl)
      try simp only [Act.put, List.setIfInBounds_toArray, List.set_cons_zero, List.set_cons_succ]
      refine wpAnyH_take (i := 7) (oi := { dst := some 19, op := _, type := _, pos := _, after := _, guard := _ }) (v := ?_) rfl (by kernel_rfl) (by kernel_rfl) (by kernel_rfl) (fun _ _ _ h => h) (Or.inl ⟨by rfl, ?_⟩) hHeld ?_
      rotate_left
      · (intro w hSw; obtain ⟨⟨g0, g1⟩, h0, h1⟩ := HK.out _ hSw; go_simp <;> with_reducible rfl)
      try simp only [Act.put, List.setIfInBounds_toArray, List.set_cons_zero, List.set_cons_succ]
      refine wpAnyH_take (i := 8) (oi := { dst := some 20, op := _, type := _, pos := _, after := _, guard := _ }) (v := ?_) rfl (by kernel_rfl) (by kernel_rfl) (by kernel_rfl) (fun _ _ _ h => h) (Or.inl ⟨by rfl, ?_⟩) hHeld ?_
      rotate_left
      · (intro w hSw; obtain ⟨⟨g0, g1⟩, h0, h1⟩ := HK.out _ hSw; go_simp <;> with_reducible rfl)
      try simp only [Act.put, List.setIfInBounds_toArray, List.set_cons_zero, List.set_cons_succ]
      refine wpAnyH_take (i := 9) (oi := { dst := some 21, op := _, type := _, pos := _, after := _, guard := _ }) (v := ?_) rfl (by kernel_rfl) (by kernel_rfl) (by kernel_rfl) (fun _ _ _ h => h) (Or.inl ⟨by rfl, ?_⟩) hHeld ?_
      rotate_left
      · (intro w hSw; obtain ⟨⟨g0, g1⟩, h0, h1⟩ := HK.out _ hSw; go_simp <;> with_reducible rfl)
      try simp only [Act.put, List.setIfInBounds_toArray, List.set_cons_zero, List.set_cons_succ]
      refine wpAnyH_ready (rs := [10]) (by kernel_rfl) (by simp) ?_
      refine AllReadyH.cons (o := { dst := some 22, op := _, type := _, pos := _, after := _, guard := _ }) rfl (fun K hK => ?_) AllReadyH.nil
      go_simp
      rw [hF, Oper.upon_enter]
      refine (HP.out _ hHeld).mono ?_
      rintro e u1 ⟨rfl, hk1⟩
      have hKeep := since_step hHeld hk1
      rw [HQ.out]
      go_wp2_with fail
      refine hK.out _ _ (by (try dsimp only); exact hKeep) (fun hHeld => ?_)
      clear hK K hKeep
      try simp only [Act.put, List.setIfInBounds_toArray, List.set_cons_zero, List.set_cons_succ]
      refine wpAnyH_take (i := 11) (oi := { dst := some 23, op := _, type := _, pos := _, after := _, guard := _ }) (v := ?_) rfl (by kernel_rfl) (by kernel_rfl) (by kernel_rfl) (fun _ _ _ h => h) (Or.inl ⟨by rfl, ?_⟩) hHeld ?_
      rotate_left
      · (intro w hSw; obtain ⟨⟨g0, g1⟩, h0, h1⟩ := HK.out _ hSw; go_simp <;> with_reducible rfl)
      try simp only [Act.put, List.setIfInBounds_toArray, List.set_cons_zero, List.set_cons_succ]
      refine wpAnyH_done (by kernel_rfl) ?_ _
      have hB2 := since_step hB hHeld
      cases q with
      | true =>
        go_wp2_with fail
        go_roundw
        case rel => exact ⟨k + 1, by go_num, by omega, by simpa using HXq.out, hB2⟩
        case measure => simp [intOf]; omega
      | false =>
        have hr : risingL ah l = false := by simpa using HXq.out
        have HR := Lib.hid hr
        clear hr
        go_wp2_with fail
        go_ret
        exact ⟨retB HR.out.symm, hB2⟩
    · have hrt : risingL ah l = true := (risingL_iff ah l).2 fun j hj => hno j hj (by omega)
      have HR := Lib.hid hrt
      have hge : ¬ ((k : Int) + 1 < (l.length : Int)) := by omega
      clear hno hrt
      go_wp2_with fail
      go_ret
      exact ⟨retB HR.out.symm, hB⟩
end Go.Proofs.Ytldnponbkhgijaa
end
