import Derived.Lib.ItoaNum
import Derived.Test.YtahdmomadbbhoaaGreatDk07
import Derived.Deep.CutBlock
import Derived.Deep.CutRange
import Derived.Deep.DeepCutAuto
import Derived.Test.YtahdmomadbbhoaaGreatDk12
import Derived.Test.YtahdmomadbbhoaaGreatDk11
section
namespace Go.Proofs.YtahdmomadbbhoaaGreat
open Go.ChangeShapes Go.WideShapes Go.ChangeAt Go.RowKit
set_option linter.unusedVariables false
set_option linter.unusedSimpArgs false

structure Dg (Y A B u d : Nat) : Prop where
  hy : Y = A * 4294967296 + B
  hb : B < 4294967296
  ha : 2147483648 ≤ A
  ha2 : A < 4294967296
  hu : u < Y
  hd : d < 4294967296
theorem lin_le (qa qb r d M : Nat) (hc : qb ≤ r * M + d) : qa * M + qb ≤ (qa + r) * M + d := by rw [Nat.add_mul]; omega
section digit
variable {Y A B u d : Nat}
def dgQ (Y u d : Nat) : Nat := (u * 4294967296 + d) / Y
theorem Dg.pos (h : Dg Y A B u d) : 0 < Y := by have := h.hu; omega
theorem Dg.le (h : Dg Y A B u d) : dgQ Y u d ≤ u / A := by
  have hA : 0 < A := by have := h.ha; omega
  rw [Nat.le_div_iff_mul_le hA]
  have h1 : dgQ Y u d * Y ≤ u * 4294967296 + d := Nat.div_mul_le_self _ _
  have h2 : dgQ Y u d * (A * 4294967296) ≤ dgQ Y u d * Y := Nat.mul_le_mul_left _ (by have := h.hy; omega)
  have h3 : dgQ Y u d * (A * 4294967296) = dgQ Y u d * A * 4294967296 := by rw [Nat.mul_assoc]
  have := h.hd
  omega
theorem Dg.q2 (h : Dg Y A B u d) : u / A ≤ 4294967297 := by
  have hA : 0 < A := by have := h.ha; omega
  have : u / A < 4294967298 := by
    rw [Nat.div_lt_iff_lt_mul hA]
    have := h.hu; have := h.hy; have := h.hb; have := h.ha
    omega
  omega
theorem Dg.done (h : Dg Y A B u d) {q r : Nat} (e : q * A + r = u) (hq : dgQ Y u d ≤ q) (hc : q * B ≤ r * 4294967296 + d) : q = dgQ Y u d := by
  have : q ≤ dgQ Y u d := by
    clear hq
    unfold dgQ
    have e2 : q * Y = q * A * 4294967296 + q * B := by rw [h.hy, Nat.mul_add q (A * 4294967296) B, Nat.mul_assoc q A 4294967296]
    rw [Nat.le_div_iff_mul_le h.pos, e2]
    subst e
    exact lin_le _ _ _ _ _ hc
  omega
theorem Dg.rest (h : Dg Y A B u d) : dgQ Y u d * Y ≤ u * 4294967296 + d ∧ u * 4294967296 + d - dgQ Y u d * Y < Y := by
  have h1 : dgQ Y u d * Y ≤ u * 4294967296 + d := Nat.div_mul_le_self _ _
  refine ⟨h1, ?_⟩
  have h2 : Y * dgQ Y u d + (u * 4294967296 + d) % Y = u * 4294967296 + d := Nat.div_add_mod _ _
  have h3 : (u * 4294967296 + d) % Y < Y := Nat.mod_lt _ h.pos
  rw [Nat.mul_comm] at h2
  omega
end digit
theorem Dg.u2 {Y A B u d u2 : Nat} (h : Dg Y A B u d) (hu : u2 = u * 4294967296 + d - dgQ Y u d * Y) : u * 4294967296 + d = dgQ Y u d * Y + u2 ∧ u2 < Y := by
  obtain ⟨h1, h2⟩ := h.rest
  rw [hu]
  refine ⟨?_, h2⟩
  generalize dgQ Y u d * Y = m at *
  omega
end Go.Proofs.YtahdmomadbbhoaaGreat
end
section
namespace Go.Proofs.YtahdmomadbbhoaaGreat
open Go.ChangeShapes Go.WideShapes Go.ChangeAt Go.RowKit
set_option linter.unusedVariables false
set_option linter.unusedSimpArgs false

theorem in128_zero : In128 0 := by unfold In128; omega
set_option maxHeartbeats 2000000 in
theorem wcmp_any (x y : Int) (hx : In128 x) (hy : In128 y) (w : World) :
    Calls Tryz.prog 79 #[.agg #[.int .i64 (hiN x), .int .u64 (loN x)], .agg #[.int .i64 (hiN y), .int .u64 (loN y)]] w fun e w' => e = .returned (.int .i64 (cmpZ x y)) ∧ Below w.heap.size w w' := by
  have hxs := split_in hx
  have hys := split_in hy
  have lx := lo_nn x
  have ly := lo_nn y
  have lx2 := lo_lt x
  have ly2 := lo_lt y
  have hz : cmpZ x y = if hiN x = hiN y ∧ loN x = loN y then 0 else if hiN x < hiN y ∨ (hiN x = hiN y ∧ loN x < loN y) then -1 else 1 := by
    unfold cmpZ
    by_cases h1 : x = y
    · subst h1; simp
    · have hne : ¬ (hiN x = hiN y ∧ loN x = loN y) := fun h => h1 (parts_inj hx hy h.1 h.2)
      rw [if_neg h1, if_neg hne]
      by_cases h2 : x < y
      · rw [if_pos h2, if_pos (show hiN x < hiN y ∨ (hiN x = hiN y ∧ loN x < loN y) by omega)]
      · rw [if_neg h2, if_neg (show ¬ (hiN x < hiN y ∨ (hiN x = hiN y ∧ loN x < loN y)) by omega)]
  have HZ := Lib.hid hz
  clear hz hxs hys lx ly lx2 ly2
  generalize hiN x = a at *
  generalize hiN y = b at *
  generalize loN x = c at *
  generalize loN y = d at *
  have P1 := (T2.new w a c 56).alloc (.cells #[.int .i64 b, .int .u64 d] 56)
  have P2 : T2 ((w.alloc (.cells #[.int .i64 a, .int .u64 c] 56)).alloc (.cells #[.int .i64 b, .int .u64 d] 56)) (w.heap.size + 1) b d := by
    have := T2.new (w.alloc (.cells #[.int .i64 a, .int .u64 c] 56)) b d 56
    rwa [World.size_alloc] at this
  have hB := since_alloc (since_alloc (Below.refl _ w) (.cells #[.int .i64 a, .int .u64 c] 56)) (.cells #[.int .i64 b, .int .u64 d] 56)
  go_enter Tryz.func79, Tryz.ntmps79
  go_upto_region 1 with fail
  generalize (w.alloc (.cells #[.int .i64 a, .int .u64 c] 56)).alloc (.cells #[.int .i64 b, .int .u64 d] 56) = W at *
  obtain ⟨p0, p1, p2, p3, p4⟩ := P1
  obtain ⟨q0, q1, q2, q3, q4⟩ := P2
  by_cases h1 : a = b
  · subst h1
    by_cases h2 : c = d
    · subst h2
      go_wp2
      go_ret
      exact ⟨by rw [HZ.out]; simp, hB⟩
    · have k1 : (c == d) = false := by simp; exact h2
      have k2 : decide (a < a) = false := by simp
      by_cases h3 : c < d
      · have k3 : decide (c < d) = true := decide_eq_true h3
        go_wp2
        go_ret
        exact ⟨by rw [HZ.out]; simp; omega, hB⟩
      · have k3 : decide (c < d) = false := decide_eq_false h3
        go_wp2
        go_ret
        exact ⟨by rw [HZ.out]; simp; omega, hB⟩
  · have k1 : (a == b) = false := by simp; exact h1
    by_cases h3 : a < b
    · have k3 : decide (a < b) = true := decide_eq_true h3
      go_wp2
      go_ret
      exact ⟨by rw [HZ.out]; simp; omega, hB⟩
    · have k3 : decide (a < b) = false := decide_eq_false h3
      go_wp2
      go_ret
      exact ⟨by rw [HZ.out]; simp; omega, hB⟩
set_option maxHeartbeats 1000000 in
theorem wsign_any (x : Int) (hx : In128 x) (w : World) :
    Calls Tryz.prog 46 #[.agg #[.int .i64 (hiN x), .int .u64 (loN x)]] w fun e w' => e = .returned (.int .i64 (cmpZ x 0)) ∧ Below w.heap.size w w' := by
  have HC := Lib.hid (fun w => wcmp_any x 0 hx in128_zero w)
  obtain ⟨z1, z2, z3⟩ := zero_parts
  rw [z1, z2] at HC
  go_enter Tryz.func46, Tryz.ntmps46
  go_wp2_with fail
  refine (HC.out _).mono ?_
  rintro e w1 ⟨rfl, hb1⟩
  have hB1 := since_step (since_alloc (Below.refl _ w) _) hb1
  go_wp2_with fail
  go_ret
  exact ⟨rfl, hB1⟩
end Go.Proofs.YtahdmomadbbhoaaGreat
end
section
namespace Go.Proofs.YtahdmomadbbhoaaGreat
open Go.ChangeShapes Go.WideShapes Go.ChangeAt Go.RowKit
set_option linter.unusedVariables false
set_option linter.unusedSimpArgs false
theorem cmp_same (z : Int) : cmpZ z z = 0 := by unfold cmpZ; simp
theorem BigAt.l64 {w : World} {s : Bool} {A : Option Addr} {n c : Nat} {z : Int} (h : BigAt w s A n c z) (hz : In64 z) : n ≤ 64 := (h.len (k := 64)).2 (by unfold In64 at hz; simp; omega)
theorem BB.new1 (w : World) (o : Obj) (s : Bool) (A : Option Addr) (n c : Nat) (t : TypeId) : BB ((w.alloc o).alloc (.cells #[.bool s, .slice A n c] t)) (w.heap.size + 1) s A n c := by
  have := BB.new (w.alloc o) s A n c t
  rwa [World.size_alloc] at this
end Go.Proofs.YtahdmomadbbhoaaGreat
end
section
namespace Go.Proofs.YtahdmomadbbhoaaGreat
open Go.ChangeShapes Go.WideShapes Go.ChangeAt Go.RowKit
set_option linter.unusedVariables false
set_option linter.unusedSimpArgs false

theorem All64.ofI {l : List Int} (h : ∀ x ∈ l, (Lit.int .i64 x).wf = true) : All64 l := fun x hx => bd_i64 (h x hx)
theorem All64.takeI {l : List Int} (h : All64 l) (n : Nat) : All64 (l.take n) := fun x hx => h x (List.mem_of_mem_take hx)
theorem sl_takeI {w : World} {A : Option Addr} {l : List Int} (h : Sl w A (ints .i64 l)) (n : Nat) : Sl w A (ints .i64 (l.take n)) := by
  have e : ints .i64 (l.take n) = (ints .i64 l).take n := by simp [ints, List.map_take]
  rw [e]; exact h.take n
structure Ins where
  (id mult price nxt : Int)
  mv : List Int
def insV (i : Ins) (A : Option Addr) (c : Nat) : Value := .agg #[.int .i64 i.id, .int .i64 i.mult, .int .i64 i.price, .int .i64 i.nxt, .slice A i.mv.length c]
structure InsAt (w : World) (i : Ins) (A : Option Addr) (c : Nat) : Prop where
  cap : i.mv.length ≤ c ∧ c ≤ maxLen
  sl : Sl w A (ints .i64 i.mv)
  mv64 : All64 i.mv
  n64 : In64 i.id ∧ In64 i.mult ∧ In64 i.price ∧ In64 i.nxt
theorem InsAt.below {w w' : World} {i : Ins} {A : Option Addr} {c : Nat} (h : InsAt w i A c) (hb : Below w.heap.size w w') : InsAt w' i A c := ⟨h.cap, h.sl.below hb, h.mv64, h.n64⟩
theorem rd_inst {w : World} {a : Array Value} (h : Rd w (.cat (.int .i64) (.cat (.int .i64) (.cat (.int .i64) (.cat (.int .i64) (.cat (.sl (.int .i64)) .nil))))) a.toList) : ∃ (i : Ins) (A : Option Addr) (c : Nat), Value.agg a = insV i A c ∧ InsAt w i A c := by
  obtain ⟨x1, y1, e1, ⟨n1, rfl, w1⟩, x2, y2, rfl, ⟨n2, rfl, w2⟩, x3, y3, rfl, ⟨n3, rfl, w3⟩, x4, y4, rfl, ⟨n4, rfl, w4⟩, x5, y5, rfl, h5, rfl⟩ := h
  obtain ⟨A, n, c, rows, e5, r⟩ := id h5
  subst e5
  obtain ⟨l, hl, hc, hm, hs, hw⟩ := rd_ints h5
  refine ⟨⟨n1, n2, n3, n4, l⟩, A, c, ?_, ⟨⟨by rw [hl]; exact hc, hm⟩, hs, All64.ofI hw, bd_i64 w1, bd_i64 w2, bd_i64 w3, bd_i64 w4⟩⟩
  have : a = #[.int .i64 n1, .int .i64 n2, .int .i64 n3, .int .i64 n4, .slice A n c] := by
    apply Array.ext'
    rw [e1]
    rfl
  rw [this]
  unfold insV
  rw [hl]
def prB (p : Int) : Bool := decide (0 ≤ p) && decide (p ≤ 2147483647)
def mvB (m : Int) : Bool := decide (-2147483647 ≤ m) && decide (m ≤ 2147483647)
def headB (i : Ins) : Bool := decide (1 ≤ i.id) && decide (i.id ≤ 8) && decide (1 ≤ i.mult) && decide (i.mult ≤ 65536) && prB i.price && prB i.nxt && decide (i.mv.length ≤ 8)
def okB (i : Ins) : Bool := headB i && i.mv.all mvB
theorem priced_any (p : Int) (w : World) : Calls Tryz.prog 60 #[.int .i64 p] w fun e w' => e = .returned (.bool (prB p)) ∧ w' = w := by
  unfold prB
  by_cases h : 0 ≤ p
  · by_cases h2 : p ≤ 2147483647
    · go_enter Tryz.func60, Tryz.ntmps60
      go_wp2
      go_ret
      exact ⟨by simp [h, h2], rfl⟩
    · go_enter Tryz.func60, Tryz.ntmps60
      go_wp2
      go_ret
      exact ⟨by simp [h, h2], rfl⟩
  · go_enter Tryz.func60, Tryz.ntmps60
    go_wp2
    go_ret
    exact ⟨by simp; omega, rfl⟩
def x_out (m : Int) : Prop := m < -2147483647 ∨ (¬ m < -2147483647 ∧ 2147483647 < m)
def IB (w : World) (g : Nat) (i : Ins) (A : Option Addr) (c : Nat) : Prop := g < w.heap.size ∧ w.cell? ⟨g, 0, none⟩ = some (.int .i64 i.id) ∧ w.cell? ⟨g, 1, none⟩ = some (.int .i64 i.mult) ∧ w.cell? ⟨g, 2, none⟩ = some (.int .i64 i.price) ∧
  w.cell? ⟨g, 3, none⟩ = some (.int .i64 i.nxt) ∧ w.cell? ⟨g, 4, none⟩ = some (.slice A i.mv.length c)
theorem IB.new (w : World) (i : Ins) (A : Option Addr) (c : Nat) (t : TypeId) : IB (w.alloc (.cells #[.int .i64 i.id, .int .i64 i.mult, .int .i64 i.price, .int .i64 i.nxt, .slice A i.mv.length c] t)) w.heap.size i A c := by
  refine ⟨?_, ?_, ?_, ?_, ?_, ?_⟩ <;> simp
theorem IB.far {w w' : World} {B g : Nat} {i : Ins} {A : Option Addr} {c : Nat} (h : IB w g i A c) (hb : Below B w w') (hg : g < B) : IB w' g i A c :=
  ⟨Nat.lt_of_lt_of_le h.1 hb.size, (hb.cell (p := ⟨g, 0, none⟩) hg).trans h.2.1, (hb.cell (p := ⟨g, 1, none⟩) hg).trans h.2.2.1, (hb.cell (p := ⟨g, 2, none⟩) hg).trans h.2.2.2.1, (hb.cell (p := ⟨g, 3, none⟩) hg).trans h.2.2.2.2.1, (hb.cell (p := ⟨g, 4, none⟩) hg).trans h.2.2.2.2.2⟩
theorem IB.below {w w' : World} {g : Nat} {i : Ins} {A : Option Addr} {c : Nat} (h : IB w g i A c) (hb : Below w.heap.size w w') : IB w' g i A c := h.far hb h.1
-- CHECKS
set_option maxRecDepth 100000 in
set_option maxHeartbeats 4000000 in
theorem check_any (i : Ins) (A : Option Addr) (c : Nat) (w : World) (h : InsAt w i A c) :
    Calls Tryz.prog 59 #[insV i A c] w fun e w' => e = .returned (.int .i64 (if okB i = true then 0 else 2)) ∧ Below w.heap.size w w' := by
  obtain ⟨⟨hc1, hc2⟩, hs, h64, hn⟩ := h
  obtain ⟨id, mult, price, nxt, mv⟩ := i
  simp only at *
  obtain ⟨RV, hRV⟩ : ∃ v : Value, v = .int .i64 (if okB ⟨id, mult, price, nxt, mv⟩ = true then 0 else 2) := ⟨_, rfl⟩
  rw [← hRV]
  have HRV := Lib.hid hRV
  clear hRV
  have HP := fun p w => priced_any p w
  have hB0 := since_alloc (Below.refl _ w) (.cells #[.int .i64 id, .int .i64 mult, .int .i64 price, .int .i64 nxt, .slice A mv.length c] 26)
  have hI0 := IB.new w ⟨id, mult, price, nxt, mv⟩ A c 26
  by_cases hh : headB ⟨id, mult, price, nxt, mv⟩ = true
  · have hh' := hh
    simp only [headB, Bool.and_eq_true, decide_eq_true_eq] at hh'
    obtain ⟨⟨⟨⟨⟨⟨k1, k2⟩, k3⟩, k4⟩, k5⟩, k6⟩, k7⟩ := hh'
    have hok : okB ⟨id, mult, price, nxt, mv⟩ = mv.all mvB := by unfold okB; rw [hh]; rfl
    have HOK := Lib.hid hok
    have H5 := Lib.hid k5
    have H6 := Lib.hid k6
    have HA : Hid (∀ k, (hk : k < mv.length) → mvB mv[k] = false → mv.all mvB = false) := Lib.hid (fun k hk h => by
      rw [Bool.eq_false_iff]; intro ha
      rw [List.all_eq_true] at ha
      rw [ha _ (List.getElem_mem hk)] at h
      cases h)
    have HT : Hid ((∀ k, (hk : k < mv.length) → mvB mv[k] = true) → mv.all mvB = true) := Lib.hid (fun h => by
      rw [List.all_eq_true]
      intro x hx
      obtain ⟨k, hk, rfl⟩ := List.getElem_of_mem hx
      exact h k hk)
    have l1 : decide (id < 1) = false := decide_eq_false (by omega)
    have l2 : decide (8 < id) = false := decide_eq_false (by omega)
    have l3 : decide (mult < 1) = false := decide_eq_false (by omega)
    have l4 : decide (65536 < mult) = false := decide_eq_false (by omega)
    have l5 : decide ((8 : Int) < (mv.length : Int)) = false := decide_eq_false (by omega)
    clear hh hok k5 k6
    have HI0 := Lib.hid hI0
    clear hI0
    unfold insV
    go_enter Tryz.func59, Tryz.ntmps59
    go_wp2_with fail
    refine (HP _ _).mono ?_
    rintro e w1 ⟨rfl, rfl⟩
    rw [H5.out]
    go_wp2_with fail
    refine (HP _ _).mono ?_
    rintro e w1 ⟨rfl, rfl⟩
    rw [H6.out]
    go_wp2_with fail
    go_loopw [44] (fun s wr => ∃ k : Nat, k ≤ mv.length ∧ s = .int .i64 k ∧ Hid (∀ j, (hj : j < mv.length) → j < k → mvB mv[j] = true) ∧ IB wr w.heap.size ⟨id, mult, price, nxt, mv⟩ A c ∧ Below w.heap.size w wr) (fun s _ => mv.length - (intOf s).toNat)
    case atStart => exact ⟨0, by omega, rfl, Lib.hid (fun j hj h => absurd h (by omega)), HI0.out, hB0⟩
    case round =>
      obtain ⟨k, hk, rfl, HK, hI, hB⟩ := hrel
      obtain ⟨i0, i1, i2, i3, i4, i5⟩ := _root_.id hI
      simp only at i1 i2 i3 i4 i5
      by_cases hlt : k < mv.length
      · obtain ⟨b, o, rfl, hz⟩ := (hs.below hB).int hlt
        have hbr := World.block_lt_of_cell? _ _ hz
        by_cases hm : mvB mv[k] = true
        · have HK2 : Hid (∀ j, (hj : j < mv.length) → j < k + 1 → mvB mv[j] = true) := Lib.hid (fun j hj h => by
            rcases Nat.lt_or_ge j k with h' | h'
            · exact HK.out j hj h'
            · obtain rfl : j = k := by omega
              exact hm)
          simp only [mvB, Bool.and_eq_true, decide_eq_true_eq] at hm
          generalize mv[k] = x at *
          go_wp2
          go_roundw
          case rel => exact ⟨k + 1, by omega, by go_num, HK2, hI, hB⟩
          case measure => simp [intOf]; omega
        · have E := Lib.hid (HA.out k hlt (by simpa using hm))
          have hm2 : x_out mv[k] := by
            unfold x_out
            simp only [mvB, Bool.and_eq_true, decide_eq_true_eq] at hm
            omega
          unfold x_out at hm2
          clear hm
          generalize mv[k] = x at *
          rcases hm2 with hm2 | ⟨hm2, hm3⟩
          · go_wp2
            go_ret
            exact ⟨by rw [HRV.out, HOK.out, E.out]; rfl, hB⟩
          · go_wp2
            go_ret
            exact ⟨by rw [HRV.out, HOK.out, E.out]; rfl, hB⟩
      · obtain rfl : k = mv.length := by omega
        have E := Lib.hid (HT.out fun j hj => HK.out j hj hj)
        go_wp2
        go_ret
        exact ⟨by rw [HRV.out, HOK.out, E.out]; rfl, hB⟩
  · have HF : Hid (okB ⟨id, mult, price, nxt, mv⟩ = false) := Lib.hid (by unfold okB; rw [Bool.eq_false_iff.2 hh]; rfl)
    by_cases a1 : id < 1
    · have b0 : decide (id < 1) = true := decide_eq_true a1
      clear hh
      unfold insV
      go_enter Tryz.func59, Tryz.ntmps59
      go_wp2_with fail
      go_ret
      exact ⟨by rw [HRV.out, HF.out]; rfl, hB0⟩
    have b0 : decide (id < 1) = false := decide_eq_false a1
    by_cases a2 : 8 < id
    · have b1 : decide (8 < id) = true := decide_eq_true a2
      clear hh
      unfold insV
      go_enter Tryz.func59, Tryz.ntmps59
      go_wp2_with fail
      go_ret
      exact ⟨by rw [HRV.out, HF.out]; rfl, hB0⟩
    have b1 : decide (8 < id) = false := decide_eq_false a2
    by_cases a3 : mult < 1
    · have b2 : decide (mult < 1) = true := decide_eq_true a3
      clear hh
      unfold insV
      go_enter Tryz.func59, Tryz.ntmps59
      go_wp2_with fail
      go_ret
      exact ⟨by rw [HRV.out, HF.out]; rfl, hB0⟩
    have b2 : decide (mult < 1) = false := decide_eq_false a3
    by_cases a4 : 65536 < mult
    · have b3 : decide (65536 < mult) = true := decide_eq_true a4
      clear hh
      unfold insV
      go_enter Tryz.func59, Tryz.ntmps59
      go_wp2_with fail
      go_ret
      exact ⟨by rw [HRV.out, HF.out]; rfl, hB0⟩
    have b3 : decide (65536 < mult) = false := decide_eq_false a4
    by_cases a5 : prB price = false
    · have H5 := Lib.hid a5
      clear a5
      clear hh
      unfold insV
      go_enter Tryz.func59, Tryz.ntmps59
      go_wp2_with fail
      refine (HP _ _).mono ?_
      rintro e w1 ⟨rfl, rfl⟩
      rw [H5.out]
      go_wp2_with fail
      go_ret
      exact ⟨by rw [HRV.out, HF.out]; rfl, hB0⟩
    have H5 := Lib.hid (show prB price = true by simpa using a5)
    by_cases a6 : prB nxt = false
    · have H6 := Lib.hid a6
      clear a6 a5
      clear hh
      unfold insV
      go_enter Tryz.func59, Tryz.ntmps59
      go_wp2_with fail
      refine (HP _ _).mono ?_
      rintro e w1 ⟨rfl, rfl⟩
      rw [H5.out]
      go_wp2_with fail
      refine (HP _ _).mono ?_
      rintro e w1 ⟨rfl, rfl⟩
      rw [H6.out]
      go_wp2_with fail
      go_ret
      exact ⟨by rw [HRV.out, HF.out]; rfl, hB0⟩
    have H6 := Lib.hid (show prB nxt = true by simpa using a6)
    have a7 : (8 : Int) < (mv.length : Int) := by
      refine Decidable.byContradiction fun h7 => hh ?_
      simp only [headB, Bool.and_eq_true, decide_eq_true_eq]
      exact ⟨⟨⟨⟨⟨⟨by omega, by omega⟩, by omega⟩, by omega⟩, H5.out⟩, H6.out⟩, by omega⟩
    have b7 : decide ((8 : Int) < (mv.length : Int)) = true := decide_eq_true a7
    clear a5 a6
    clear hh
    unfold insV
    go_enter Tryz.func59, Tryz.ntmps59
    go_wp2_with fail
    refine (HP _ _).mono ?_
    rintro e w1 ⟨rfl, rfl⟩
    rw [H5.out]
    go_wp2_with fail
    refine (HP _ _).mono ?_
    rintro e w1 ⟨rfl, rfl⟩
    rw [H6.out]
    go_wp2_with fail
    go_ret
    exact ⟨by rw [HRV.out, HF.out]; rfl, hB0⟩
end Go.Proofs.YtahdmomadbbhoaaGreat
end
