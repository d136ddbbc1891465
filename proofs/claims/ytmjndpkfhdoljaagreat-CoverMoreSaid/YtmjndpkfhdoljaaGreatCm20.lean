import Derived.Test.YtmjndpkfhdoljaaGreatCm11
import Derived.Test.YtmjndpkfhdoljaaGreatCm12
import Derived.Test.YtmjndpkfhdoljaaGreatCm19
set_option maxHeartbeats 16000000
set_option maxRecDepth 100000
set_option linter.unusedVariables false
set_option linter.unusedSimpArgs false
namespace Go.Proofs.YtmjndpkfhdoljaaGreat
open Go.ChangeShapes Go.WideShapes Go.ChangeAt Go.RowKit
section
theorem All64.ofI {l : List Int} (h : ∀ x ∈ l, (Lit.int .i64 x).wf = true) : All64 l := fun x hx => bd_i64 (h x hx)
theorem All64.takeI {l : List Int} (h : All64 l) (n : Nat) : All64 (l.take n) := fun x hx => h x (List.mem_of_mem_take hx)
theorem sl_takeI {w : World} {A : Option Addr} {l : List Int} (h : Sl w A (ints .i64 l)) (n : Nat) : Sl w A (ints .i64 (l.take n)) := by
  have e : ints .i64 (l.take n) = (ints .i64 l).take n := by simp [ints, List.map_take]
  rw [e]; exact h.take n
structure Ins where
  (id mult price nxt : Int)
  mv : List Int
def insV (i : Ins) (A : Option Addr) (c : Nat) : Value := .agg #[.int .i64 i.id, .int .i64 i.mult, .int .i64 i.price, .int .i64 i.nxt, .slice A i.mv.length c]
structure InsAt (w : World) (i : Ins) (A : Option Addr) (c : Nat) : Prop where
  cap : i.mv.length ≤ c ∧ c ≤ maxLen
  sl : Sl w A (ints .i64 i.mv)
  mv64 : All64 i.mv
  n64 : In64 i.id ∧ In64 i.mult ∧ In64 i.price ∧ In64 i.nxt
theorem InsAt.below {w w' : World} {i : Ins} {A : Option Addr} {c : Nat} (h : InsAt w i A c) (hb : Below w.heap.size w w') : InsAt w' i A c := ⟨h.cap, h.sl.below hb, h.mv64, h.n64⟩
def prB (p : Int) : Bool := decide (0 ≤ p) && decide (p ≤ 2147483647)
def mvB (m : Int) : Bool := decide (-2147483647 ≤ m) && decide (m ≤ 2147483647)
def headB (i : Ins) : Bool := decide (1 ≤ i.id) && decide (i.id ≤ 8) && decide (1 ≤ i.mult) && decide (i.mult ≤ 65536) && prB i.price && prB i.nxt && decide (i.mv.length ≤ 8)
def okB (i : Ins) : Bool := headB i && i.mv.all mvB
theorem priced_any (p : Int) (w : World) : Calls Tryz.prog 140 #[.int .i64 p] w fun e w' => e = .returned (.bool (prB p)) ∧ w' = w := by
  unfold prB
  by_cases h : 0 ≤ p
  · by_cases h2 : p ≤ 2147483647
    · go_enter Tryz.func140, Tryz.ntmps140
      go_wp2
      go_ret
      exact ⟨by simp [h, h2], rfl⟩
    · go_enter Tryz.func140, Tryz.ntmps140
      go_wp2
      go_ret
      exact ⟨by simp [h, h2], rfl⟩
  · go_enter Tryz.func140, Tryz.ntmps140
    go_wp2
    go_ret
    exact ⟨by simp; omega, rfl⟩
theorem rprice_any (p : Int) (w : World) : Calls Tryz.prog 118 #[.int .i64 p] w fun e w' => e = .returned (.bool (prB p)) ∧ w' = w := by
  unfold prB
  by_cases h : 0 ≤ p
  · by_cases h2 : p ≤ 2147483647
    · have h3 : p < 2147483648 := by omega
      go_enter Tryz.func118, Tryz.ntmps118
      go_wp2
      go_ret
      exact ⟨by simp [h, h2], rfl⟩
    · have h3 : ¬ p < 2147483648 := by omega
      go_enter Tryz.func118, Tryz.ntmps118
      go_wp2
      go_ret
      exact ⟨by simp [h, h2], rfl⟩
  · go_enter Tryz.func118, Tryz.ntmps118
    go_wp2
    go_ret
    exact ⟨by simp; omega, rfl⟩
def x_out (m : Int) : Prop := m < -2147483647 ∨ (¬ m < -2147483647 ∧ 2147483647 < m)
def IB (w : World) (g : Nat) (i : Ins) (A : Option Addr) (c : Nat) : Prop := g < w.heap.size ∧ w.cell? ⟨g, 0, none⟩ = some (.int .i64 i.id) ∧ w.cell? ⟨g, 1, none⟩ = some (.int .i64 i.mult) ∧ w.cell? ⟨g, 2, none⟩ = some (.int .i64 i.price) ∧
  w.cell? ⟨g, 3, none⟩ = some (.int .i64 i.nxt) ∧ w.cell? ⟨g, 4, none⟩ = some (.slice A i.mv.length c)
theorem IB.new (w : World) (i : Ins) (A : Option Addr) (c : Nat) (t : TypeId) : IB (w.alloc (.cells #[.int .i64 i.id, .int .i64 i.mult, .int .i64 i.price, .int .i64 i.nxt, .slice A i.mv.length c] t)) w.heap.size i A c := by
  refine ⟨?_, ?_, ?_, ?_, ?_, ?_⟩ <;> simp
theorem IB.far {w w' : World} {B g : Nat} {i : Ins} {A : Option Addr} {c : Nat} (h : IB w g i A c) (hb : Below B w w') (hg : g < B) : IB w' g i A c :=
  ⟨Nat.lt_of_lt_of_le h.1 hb.size, (hb.cell (p := ⟨g, 0, none⟩) hg).trans h.2.1, (hb.cell (p := ⟨g, 1, none⟩) hg).trans h.2.2.1, (hb.cell (p := ⟨g, 2, none⟩) hg).trans h.2.2.2.1, (hb.cell (p := ⟨g, 3, none⟩) hg).trans h.2.2.2.2.1, (hb.cell (p := ⟨g, 4, none⟩) hg).trans h.2.2.2.2.2⟩
theorem IB.below {w w' : World} {g : Nat} {i : Ins} {A : Option Addr} {c : Nat} (h : IB w g i A c) (hb : Below w.heap.size w w') : IB w' g i A c := h.far hb h.1
-- CHECKS
theorem check_any_Inst (i : Ins) (A : Option Addr) (c : Nat) (w : World) (h : InsAt w i A c) :
    Calls Tryz.prog 134 #[insV i A c] w fun e w' => e = .returned (.int .i64 (if okB i = true then 0 else 2)) ∧ Below w.heap.size w w' := by
  obtain ⟨⟨hc1, hc2⟩, hs, h64, hn⟩ := h
  obtain ⟨id, mult, price, nxt, mv⟩ := i
  simp only at *
  obtain ⟨RV, hRV⟩ : ∃ v : Value, v = .int .i64 (if okB ⟨id, mult, price, nxt, mv⟩ = true then 0 else 2) := ⟨_, rfl⟩
  rw [← hRV]
  have HRV := Lib.hid hRV
  clear hRV
  have HP := fun p w => priced_any p w
  have hB0 := since_alloc (Below.refl _ w) (.cells #[.int .i64 id, .int .i64 mult, .int .i64 price, .int .i64 nxt, .slice A mv.length c] 92)
  have hI0 := IB.new w ⟨id, mult, price, nxt, mv⟩ A c 92
  by_cases hh : headB ⟨id, mult, price, nxt, mv⟩ = true
  · have hh' := hh
    simp only [headB, Bool.and_eq_true, decide_eq_true_eq] at hh'
    obtain ⟨⟨⟨⟨⟨⟨k1, k2⟩, k3⟩, k4⟩, k5⟩, k6⟩, k7⟩ := hh'
    have hok : okB ⟨id, mult, price, nxt, mv⟩ = mv.all mvB := by unfold okB; rw [hh]; rfl
    have HOK := Lib.hid hok
    have H5 := Lib.hid k5
    have H6 := Lib.hid k6
    have HA : Hid (∀ k, (hk : k < mv.length) → mvB mv[k] = false → mv.all mvB = false) := Lib.hid (fun k hk h => by
      rw [Bool.eq_false_iff]; intro ha
      rw [List.all_eq_true] at ha
      rw [ha _ (List.getElem_mem hk)] at h
      cases h)
    have HT : Hid ((∀ k, (hk : k < mv.length) → mvB mv[k] = true) → mv.all mvB = true) := Lib.hid (fun h => by
      rw [List.all_eq_true]
      intro x hx
      obtain ⟨k, hk, rfl⟩ := List.getElem_of_mem hx
      exact h k hk)
    have l1 : decide (id < 1) = false := decide_eq_false (by omega)
    have l2 : decide (8 < id) = false := decide_eq_false (by omega)
    have l3 : decide (mult < 1) = false := decide_eq_false (by omega)
    have l4 : decide (65536 < mult) = false := decide_eq_false (by omega)
    have l5 : decide ((8 : Int) < (mv.length : Int)) = false := decide_eq_false (by omega)
    clear hh hok k5 k6
    have HI0 := Lib.hid hI0
    clear hI0
    unfold insV
    go_enter Tryz.func134, Tryz.ntmps134
    go_wp2_with fail
    refine (HP _ _).mono ?_
    rintro e w1 ⟨rfl, rfl⟩
    rw [H5.out]
    go_wp2_with fail
    refine (HP _ _).mono ?_
    rintro e w1 ⟨rfl, rfl⟩
    rw [H6.out]
    go_wp2_with fail
    go_loopw [44] (fun s wr => ∃ k : Nat, k ≤ mv.length ∧ s = .int .i64 k ∧ Hid (∀ j, (hj : j < mv.length) → j < k → mvB mv[j] = true) ∧ IB wr w.heap.size ⟨id, mult, price, nxt, mv⟩ A c ∧ Below w.heap.size w wr) (fun s _ => mv.length - (intOf s).toNat)
    case atStart => exact ⟨0, by omega, rfl, Lib.hid (fun j hj h => absurd h (by omega)), HI0.out, hB0⟩
    case round =>
      obtain ⟨k, hk, rfl, HK, hI, hB⟩ := hrel
      obtain ⟨i0, i1, i2, i3, i4, i5⟩ := _root_.id hI
      simp only at i1 i2 i3 i4 i5
      by_cases hlt : k < mv.length
      · obtain ⟨b, o, rfl, hz⟩ := (hs.below hB).int hlt
        have hbr := World.block_lt_of_cell? _ _ hz
        by_cases hm : mvB mv[k] = true
        · have HK2 : Hid (∀ j, (hj : j < mv.length) → j < k + 1 → mvB mv[j] = true) := Lib.hid (fun j hj h => by
            rcases Nat.lt_or_ge j k with h' | h'
            · exact HK.out j hj h'
            · obtain rfl : j = k := by omega
              exact hm)
          simp only [mvB, Bool.and_eq_true, decide_eq_true_eq] at hm
          generalize mv[k] = x at *
          go_wp2
          go_roundw
          case rel => exact ⟨k + 1, by omega, by go_num, HK2, hI, hB⟩
          case measure => simp [intOf]; omega
        · have E := Lib.hid (HA.out k hlt (by simpa using hm))
          have hm2 : x_out mv[k] := by
            unfold x_out
            simp only [mvB, Bool.and_eq_true, decide_eq_true_eq] at hm
            omega
          unfold x_out at hm2
          clear hm
          generalize mv[k] = x at *
          rcases hm2 with hm2 | ⟨hm2, hm3⟩
          · go_wp2
            go_ret
            exact ⟨by rw [HRV.out, HOK.out, E.out]; rfl, hB⟩
          · go_wp2
            go_ret
            exact ⟨by rw [HRV.out, HOK.out, E.out]; rfl, hB⟩
      · obtain rfl : k = mv.length := by omega
        have E := Lib.hid (HT.out fun j hj => HK.out j hj hj)
        go_wp2
        go_ret
        exact ⟨by rw [HRV.out, HOK.out, E.out]; rfl, hB⟩
  · have HF : Hid (okB ⟨id, mult, price, nxt, mv⟩ = false) := Lib.hid (by unfold okB; rw [Bool.eq_false_iff.2 hh]; rfl)
    by_cases a1 : id < 1
    · have b0 : decide (id < 1) = true := decide_eq_true a1
      clear hh
      unfold insV
      go_enter Tryz.func134, Tryz.ntmps134
      go_wp2_with fail
      go_ret
      exact ⟨by rw [HRV.out, HF.out]; rfl, hB0⟩
    have b0 : decide (id < 1) = false := decide_eq_false a1
    by_cases a2 : 8 < id
    · have b1 : decide (8 < id) = true := decide_eq_true a2
      clear hh
      unfold insV
      go_enter Tryz.func134, Tryz.ntmps134
      go_wp2_with fail
      go_ret
      exact ⟨by rw [HRV.out, HF.out]; rfl, hB0⟩
    have b1 : decide (8 < id) = false := decide_eq_false a2
    by_cases a3 : mult < 1
    · have b2 : decide (mult < 1) = true := decide_eq_true a3
      clear hh
      unfold insV
      go_enter Tryz.func134, Tryz.ntmps134
      go_wp2_with fail
      go_ret
      exact ⟨by rw [HRV.out, HF.out]; rfl, hB0⟩
    have b2 : decide (mult < 1) = false := decide_eq_false a3
    by_cases a4 : 65536 < mult
    · have b3 : decide (65536 < mult) = true := decide_eq_true a4
      clear hh
      unfold insV
      go_enter Tryz.func134, Tryz.ntmps134
      go_wp2_with fail
      go_ret
      exact ⟨by rw [HRV.out, HF.out]; rfl, hB0⟩
    have b3 : decide (65536 < mult) = false := decide_eq_false a4
    by_cases a5 : prB price = false
    · have H5 := Lib.hid a5
      clear a5
      clear hh
      unfold insV
      go_enter Tryz.func134, Tryz.ntmps134
      go_wp2_with fail
      refine (HP _ _).mono ?_
      rintro e w1 ⟨rfl, rfl⟩
      rw [H5.out]
      go_wp2_with fail
      go_ret
      exact ⟨by rw [HRV.out, HF.out]; rfl, hB0⟩
    have H5 := Lib.hid (show prB price = true by simpa using a5)
    by_cases a6 : prB nxt = false
    · have H6 := Lib.hid a6
      clear a6 a5
      clear hh
      unfold insV
      go_enter Tryz.func134, Tryz.ntmps134
      go_wp2_with fail
      refine (HP _ _).mono ?_
      rintro e w1 ⟨rfl, rfl⟩
      rw [H5.out]
      go_wp2_with fail
      refine (HP _ _).mono ?_
      rintro e w1 ⟨rfl, rfl⟩
      rw [H6.out]
      go_wp2_with fail
      go_ret
      exact ⟨by rw [HRV.out, HF.out]; rfl, hB0⟩
    have H6 := Lib.hid (show prB nxt = true by simpa using a6)
    have a7 : (8 : Int) < (mv.length : Int) := by
      refine Decidable.byContradiction fun h7 => hh ?_
      simp only [headB, Bool.and_eq_true, decide_eq_true_eq]
      exact ⟨⟨⟨⟨⟨⟨by omega, by omega⟩, by omega⟩, by omega⟩, H5.out⟩, H6.out⟩, by omega⟩
    have b7 : decide ((8 : Int) < (mv.length : Int)) = true := decide_eq_true a7
    clear a5 a6
    clear hh
    unfold insV
    go_enter Tryz.func134, Tryz.ntmps134
    go_wp2_with fail
    refine (HP _ _).mono ?_
    rintro e w1 ⟨rfl, rfl⟩
    rw [H5.out]
    go_wp2_with fail
    refine (HP _ _).mono ?_
    rintro e w1 ⟨rfl, rfl⟩
    rw [H6.out]
    go_wp2_with fail
    go_ret
    exact ⟨by rw [HRV.out, HF.out]; rfl, hB0⟩
theorem ris_any_Inst (i : Ins) (A : Option Addr) (c : Nat) (w : World) (h : InsAt w i A c) :
    Calls Tryz.prog 106 #[insV i A c] w fun e w' => e = .returned (.bool (okB i)) ∧ Below w.heap.size w w' := by
  obtain ⟨⟨hc1, hc2⟩, hs, h64, hn⟩ := h
  obtain ⟨id, mult, price, nxt, mv⟩ := i
  simp only at *
  obtain ⟨RV, hRV⟩ : ∃ v : Value, v = .bool (okB ⟨id, mult, price, nxt, mv⟩) := ⟨_, rfl⟩
  rw [← hRV]
  have HRV := Lib.hid hRV
  clear hRV
  have HP := fun p w => rprice_any p w
  have hB0 := since_alloc (Below.refl _ w) (.cells #[.int .i64 id, .int .i64 mult, .int .i64 price, .int .i64 nxt, .slice A mv.length c] 92)
  have hI0 := IB.new w ⟨id, mult, price, nxt, mv⟩ A c 92
  by_cases hh : headB ⟨id, mult, price, nxt, mv⟩ = true
  · have hh' := hh
    simp only [headB, Bool.and_eq_true, decide_eq_true_eq] at hh'
    obtain ⟨⟨⟨⟨⟨⟨k1, k2⟩, k3⟩, k4⟩, k5⟩, k6⟩, k7⟩ := hh'
    have hok : okB ⟨id, mult, price, nxt, mv⟩ = mv.all mvB := by unfold okB; rw [hh]; rfl
    have HOK := Lib.hid hok
    have H5 := Lib.hid k5
    have H6 := Lib.hid k6
    have HA : Hid (∀ k, (hk : k < mv.length) → mvB mv[k] = false → mv.all mvB = false) := Lib.hid (fun k hk h => by
      rw [Bool.eq_false_iff]; intro ha
      rw [List.all_eq_true] at ha
      rw [ha _ (List.getElem_mem hk)] at h
      cases h)
    have HT : Hid ((∀ k, (hk : k < mv.length) → mvB mv[k] = true) → mv.all mvB = true) := Lib.hid (fun h => by
      rw [List.all_eq_true]
      intro x hx
      obtain ⟨k, hk, rfl⟩ := List.getElem_of_mem hx
      exact h k hk)
    have l1 : decide (id < 1) = false := decide_eq_false (by omega)
    have l2 : decide (8 < id) = false := decide_eq_false (by omega)
    have l3 : decide (mult < 1) = false := decide_eq_false (by omega)
    have l4 : decide (65536 < mult) = false := decide_eq_false (by omega)
    have l5 : decide ((8 : Int) < (mv.length : Int)) = false := decide_eq_false (by omega)
    clear hh hok k5 k6
    have HI0 := Lib.hid hI0
    clear hI0
    unfold insV
    go_enter Tryz.func106, Tryz.ntmps106
    go_wp2_with fail
    refine (HP _ _).mono ?_
    rintro e w1 ⟨rfl, rfl⟩
    rw [H5.out]
    go_wp2_with fail
    refine (HP _ _).mono ?_
    rintro e w1 ⟨rfl, rfl⟩
    rw [H6.out]
    go_wp2_with fail
    go_loopw [3] (fun s wr => ∃ k : Nat, k ≤ mv.length ∧ s = .int .i64 k ∧ Hid (∀ j, (hj : j < mv.length) → j < k → mvB mv[j] = true) ∧ IB wr w.heap.size ⟨id, mult, price, nxt, mv⟩ A c ∧ Below w.heap.size w wr) (fun s _ => mv.length - (intOf s).toNat)
    case atStart => exact ⟨0, by omega, rfl, Lib.hid (fun j hj h => absurd h (by omega)), HI0.out, hB0⟩
    case round =>
      obtain ⟨k, hk, rfl, HK, hI, hB⟩ := hrel
      obtain ⟨i0, i1, i2, i3, i4, i5⟩ := _root_.id hI
      simp only at i1 i2 i3 i4 i5
      by_cases hlt : k < mv.length
      · obtain ⟨b, o, rfl, hz⟩ := (hs.below hB).int hlt
        have hbr := World.block_lt_of_cell? _ _ hz
        by_cases hm : mvB mv[k] = true
        · have HK2 : Hid (∀ j, (hj : j < mv.length) → j < k + 1 → mvB mv[j] = true) := Lib.hid (fun j hj h => by
            rcases Nat.lt_or_ge j k with h' | h'
            · exact HK.out j hj h'
            · obtain rfl : j = k := by omega
              exact hm)
          simp only [mvB, Bool.and_eq_true, decide_eq_true_eq] at hm
          generalize mv[k] = x at *
          go_wp2
          go_roundw
          case rel => exact ⟨k + 1, by omega, by go_num, HK2, hI, hB⟩
          case measure => simp [intOf]; omega
        · have E := Lib.hid (HA.out k hlt (by simpa using hm))
          have hm2 : x_out mv[k] := by
            unfold x_out
            simp only [mvB, Bool.and_eq_true, decide_eq_true_eq] at hm
            omega
          unfold x_out at hm2
          clear hm
          generalize mv[k] = x at *
          rcases hm2 with hm2 | ⟨hm2, hm3⟩
          · go_wp2
            go_ret
            exact ⟨by rw [HRV.out, HOK.out, E.out]; rfl, hB⟩
          · go_wp2
            go_ret
            exact ⟨by rw [HRV.out, HOK.out, E.out]; rfl, hB⟩
      · obtain rfl : k = mv.length := by omega
        have E := Lib.hid (HT.out fun j hj => HK.out j hj hj)
        go_wp2
        go_ret
        exact ⟨by rw [HRV.out, HOK.out, E.out]; rfl, hB⟩
  · have HF : Hid (okB ⟨id, mult, price, nxt, mv⟩ = false) := Lib.hid (by unfold okB; rw [Bool.eq_false_iff.2 hh]; rfl)
    by_cases a1 : id < 1
    · have b0 : decide (id < 1) = true := decide_eq_true a1
      clear hh
      unfold insV
      go_enter Tryz.func106, Tryz.ntmps106
      go_wp2_with fail
      go_ret
      exact ⟨by rw [HRV.out, HF.out]; rfl, hB0⟩
    have b0 : decide (id < 1) = false := decide_eq_false a1
    by_cases a2 : 8 < id
    · have b1 : decide (8 < id) = true := decide_eq_true a2
      clear hh
      unfold insV
      go_enter Tryz.func106, Tryz.ntmps106
      go_wp2_with fail
      go_ret
      exact ⟨by rw [HRV.out, HF.out]; rfl, hB0⟩
    have b1 : decide (8 < id) = false := decide_eq_false a2
    by_cases a3 : mult < 1
    · have b2 : decide (mult < 1) = true := decide_eq_true a3
      clear hh
      unfold insV
      go_enter Tryz.func106, Tryz.ntmps106
      go_wp2_with fail
      go_ret
      exact ⟨by rw [HRV.out, HF.out]; rfl, hB0⟩
    have b2 : decide (mult < 1) = false := decide_eq_false a3
    by_cases a4 : 65536 < mult
    · have b3 : decide (65536 < mult) = true := decide_eq_true a4
      clear hh
      unfold insV
      go_enter Tryz.func106, Tryz.ntmps106
      go_wp2_with fail
      go_ret
      exact ⟨by rw [HRV.out, HF.out]; rfl, hB0⟩
    have b3 : decide (65536 < mult) = false := decide_eq_false a4
    by_cases a5 : prB price = false
    · have H5 := Lib.hid a5
      clear a5
      clear hh
      unfold insV
      go_enter Tryz.func106, Tryz.ntmps106
      go_wp2_with fail
      refine (HP _ _).mono ?_
      rintro e w1 ⟨rfl, rfl⟩
      rw [H5.out]
      go_wp2_with fail
      go_ret
      exact ⟨by rw [HRV.out, HF.out]; rfl, hB0⟩
    have H5 := Lib.hid (show prB price = true by simpa using a5)
    by_cases a6 : prB nxt = false
    · have H6 := Lib.hid a6
      clear a6 a5
      clear hh
      unfold insV
      go_enter Tryz.func106, Tryz.ntmps106
      go_wp2_with fail
      refine (HP _ _).mono ?_
      rintro e w1 ⟨rfl, rfl⟩
      rw [H5.out]
      go_wp2_with fail
      refine (HP _ _).mono ?_
      rintro e w1 ⟨rfl, rfl⟩
      rw [H6.out]
      go_wp2_with fail
      go_ret
      exact ⟨by rw [HRV.out, HF.out]; rfl, hB0⟩
    have H6 := Lib.hid (show prB nxt = true by simpa using a6)
    have a7 : (8 : Int) < (mv.length : Int) := by
      refine Decidable.byContradiction fun h7 => hh ?_
      simp only [headB, Bool.and_eq_true, decide_eq_true_eq]
      exact ⟨⟨⟨⟨⟨⟨by omega, by omega⟩, by omega⟩, by omega⟩, H5.out⟩, H6.out⟩, by omega⟩
    have b7 : decide ((8 : Int) < (mv.length : Int)) = true := decide_eq_true a7
    clear a5 a6
    clear hh
    unfold insV
    go_enter Tryz.func106, Tryz.ntmps106
    go_wp2_with fail
    refine (HP _ _).mono ?_
    rintro e w1 ⟨rfl, rfl⟩
    rw [H5.out]
    go_wp2_with fail
    refine (HP _ _).mono ?_
    rintro e w1 ⟨rfl, rfl⟩
    rw [H6.out]
    go_wp2_with fail
    go_ret
    exact ⟨by rw [HRV.out, HF.out]; rfl, hB0⟩
end
end Go.Proofs.YtmjndpkfhdoljaaGreat
