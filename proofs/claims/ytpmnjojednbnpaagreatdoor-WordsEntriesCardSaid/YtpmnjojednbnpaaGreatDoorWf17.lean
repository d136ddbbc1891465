import Derived.BigQuiet
import Derived.Deep.QuietTactic
import Derived.IntWalk
import Derived.Test.YtpmnjojednbnpaaGreatDoorWf16
set_option maxHeartbeats 16000000
set_option maxRecDepth 100000
set_option linter.unusedVariables false
set_option linter.unusedSimpArgs false
namespace Go.Proofs.YtpmnjojednbnpaaGreatDoor
open Go.ChangeShapes Go.WideShapes Go.ChangeAt Go.RowKit
section
theorem EU : Elem Tryz.prog 54 5 1 1 := Elem.mk' (z := .int .u8 0) (by kernel_rfl) (by kernel_rfl) (by decide) (by decide)
def RB (w : World) (g : Nat) : Prop := g < w.heap.size ∧ w.cell? ⟨g, 0, none⟩ = some (.bool false) ∧ w.cell? ⟨g, 1, none⟩ = some (.slice none 0 0) ∧ ∀ i, w.frozen? ⟨g, i, none⟩ = false
theorem RB.new (w : World) (t : TypeId) : RB (w.alloc (.cells #[.bool false, .slice none 0 0] t)) w.heap.size := ⟨by simp, by simp, by simp, fun i => by simp⟩
theorem RB.far {w w' : World} {B g : Nat} (h : RB w g) (hb : Below B w w') (hg : g < B) : RB w' g :=
 ⟨Nat.lt_of_lt_of_le h.1 hb.size, (hb.cell (p := ⟨g, 0, none⟩) hg).trans h.2.1, (hb.cell (p := ⟨g, 1, none⟩) hg).trans h.2.2.1, fun i => (hb.frozen (p := ⟨g, i, none⟩) hg).trans (h.2.2.2 i)⟩
theorem RB.below {w w' : World} {g : Nat} (h : RB w g) (hb : Below w.heap.size w w') : RB w' g := h.far hb h.1
theorem RB.alloc {w : World} {g : Nat} (h : RB w g) (o : Obj) : RB (w.alloc o) g := h.below ((Below.refl _ _).alloc (Nat.le_refl _) o)
theorem trim_any (neg : Bool) (A : Option Addr) (c : Nat) (bits : List Nat) (z : Int) (hzv : z = if neg = true then -(bval bits : Int) else (bval bits : Int)) (w : World) (hl : bits.length ≤ 1000000) (hc : bits.length ≤ c ∧ c ≤ maxLen) (hb : Bin bits) (hs : Sl w A (by8 bits)) :
  Calls Tryz.prog 100 #[.bool neg, .slice A bits.length c] w fun e w' => (∃ n c', e = .returned (.agg #[.bool (decide (z < 0)), .slice A n c']) ∧ n ≤ bits.length ∧ BigAt w' (decide (z < 0)) A n c' z) ∧ Below w.heap.size w w' := by
 have hcs := @cell_set;go_enter Tryz.func100, Tryz.ntmps100
 go_wp2
 go_loopw [5] (fun i wr => ∃ k : Nat, k ≤ bits.length ∧ i = .int .i64 k ∧ (∀ j, (hj : j < bits.length) → k ≤ j → bits[j] = 0) ∧ Below w.heap.size w wr ∧ RB wr w.heap.size) (fun i _ => (intOf i).toNat)
 case atStart => exact ⟨bits.length, by omega, rfl, fun j hj h => absurd h (by omega), since_alloc (Below.refl _ _) _, RB.new _ _⟩
 case round =>
  obtain ⟨k, hk, rfl, hz, hB, hR⟩ := hrel;have HR := hJz hR;obtain ⟨r0, r1, r2, r3⟩ := hR;have hsr := hs.below hB;have hcap : bits.length ≤ c := hc.1
  have key : (∀ m, (hm : m < bits.length) → k = m + 1 → bits[m] = 1) → ∀ g, g = (neg && decide (0 < k)) → decide (z < 0) = g ∧ ∀ W, Below w.heap.size w W → BigAt W (decide (z < 0)) A k c z := by
   intro hn g hg;subst hg;have h0 := big_take neg hb hk hc hs hz hn;rw [← hzv] at h0;have h1 := h0.neg_iff;refine ⟨h1.symm, fun W h => ?_⟩;rw [← h1];exact h0.below h
  have HZ := hJz hzv;clear hzv
  rcases Nat.eq_zero_or_pos k with h0 | hpos
  ·subst h0;have KEY := hJz (key (fun m hm e => by omega) false (by simp));clear key
   cases neg
   all_goals
    go_wp2
    refine bodyPost_ret (v := .agg #[.bool false, .slice A 0 c]) ?_ rfl ?_
    ·simp [results, Tryz.results100, go_sem, cell_set, r1, r2]
    ·refine ⟨⟨0, c, by rw [KEY.out.1], Nat.zero_le _, KEY.out.2 _ ?_⟩, ?_⟩
     all_goals
      repeat' (first | with_reducible exact hB | with_reducible refine Below.setCell ?_ ?_ _)
      all_goals first | (simp; done) | (simp; omega)
  ·obtain ⟨m, rfl⟩ : ∃ m, k = m + 1 := ⟨k - 1, by omega⟩;have hm : m < bits.length := by omega
   obtain ⟨b, o, rfl, hz1⟩ := hsr.byte hm;have hbr := World.block_lt_of_cell? _ _ hz1;have hbit := hb.at_ hm;have hcm1 : m + 1 ≤ c := by omega
   by_cases h1 : bits[m] = 0
   ·rw [h1] at hz1;clear key
    go_wp2
    go_roundw
    case rel =>
     refine ⟨m, by omega, (by first | rfl | go_num), fun j hj hjm => ?_, hB, HR.out⟩
     rcases Nat.lt_or_ge m j with h | h
     ·exact hz j hj h
     ·obtain rfl : j = m := by omega
      exact h1
    case measure => simp [intOf] <;> omega
   ·have h2 : bits[m] = 1 := by omega
    rw [h2] at hz1
    have KEY := hJz (key (fun m' hm' e => by
     obtain rfl : m' = m := by omega
     exact h2) neg (by simp))
    clear key
    cases neg
    ·go_wp2
     refine bodyPost_ret (v := .agg #[.bool false, .slice (some ⟨b, o, none⟩) (m + 1) c]) ?_ rfl ?_
     ·simp [results, Tryz.results100, go_sem, cell_set, r1, r2]
     ·refine ⟨⟨m + 1, c, by rw [KEY.out.1], hk, KEY.out.2 _ ?_⟩, ?_⟩
      all_goals
       repeat' (first | with_reducible exact hB | with_reducible refine Below.setCell ?_ ?_ _)
       all_goals first | (simp; done) | (simp; omega)
    ·go_wp2
     refine bodyPost_ret (v := .agg #[.bool true, .slice (some ⟨b, o, none⟩) (m + 1) c]) ?_ rfl ?_
     ·simp [results, Tryz.results100, go_sem, cell_set, r1, r2]
     ·refine ⟨⟨m + 1, c, by rw [KEY.out.1], hk, KEY.out.2 _ ?_⟩, ?_⟩
      all_goals
       repeat' (first | with_reducible exact hB | with_reducible refine Below.setCell ?_ ?_ _)
       all_goals first | (simp; done) | (simp; omega)
def Fr (B : Nat) (A : Option Addr) (n : Nat) : Prop := ∀ b o, A = some ⟨b, o, none⟩ → 0 < n → B ≤ b
theorem Fr.own {w : World} {base : Nat} {e : TypeId} {size n c : Nat} {A : Option Addr} {xs : List Value} (h : w.ownsRow base e size (.slice A n c) n xs) : Fr base A n := by
 intro b o hA hn;obtain ⟨g, e1, e2, _⟩ := own_at h hn;rw [hA] at e1;injection e1 with e1;injection e1 with e1;omega
theorem Fr.le {B B' : Nat} {A : Option Addr} {n m : Nat} (h : Fr B A n) (hB : B' ≤ B) (hm : m ≤ n) : Fr B' A m := fun b o hA hn => by
 have := h b o hA (by omega);omega
theorem BigAt.far {w : World} {neg : Bool} {A : Option Addr} {n c : Nat} {z : Int} (h : BigAt w neg A n c z) {p : Addr} (hp : ∀ b o, A = some ⟨b, o, none⟩ → 0 < n → b ≠ p.block) (v : Value) : BigAt (w.setCell p v) neg A n c z := by
 obtain ⟨bits, h1, h2, h3, h4, h5, h6, h7⟩ := h.ex;refine ⟨bits, h1, h2, h3, ?_, h5, h6, h7⟩
 rcases Nat.eq_zero_or_pos n with h0 | h0
 ·rw [h0] at h1;rw [List.eq_nil_of_length_eq_zero h1];exact Sl.nil
 ·exact h4.far (fun b o hA => hp b o hA h0) v
theorem nat_any (u : Nat) (w : World) (hu : u < 18446744073709551616) :
  Calls Tryz.prog 71 #[.int .u64 (u : Int)] w fun e w' => (∃ A n c, e = .returned (.agg #[.bool false, .slice A n c]) ∧ Fr w.heap.size A n ∧ BigAt w' false A n c (u : Int)) ∧ Below w.heap.size w w' := by
 have hcs := @cell_set;go_enter Tryz.func71, Tryz.ntmps71
 go_wp2
 go_loopw [0, 3] (fun x v wr => ∃ (y : Nat) (A : Option Addr) (c : Nat) (bits : List Nat), x = .int .u64 (y : Int) ∧ v = .slice A bits.length c ∧ wr.ownsRow (w.heap.size + 1) 5 1 (.slice A bits.length c) bits.length (by8 bits) ∧ Bin bits ∧ u = bval bits + 2 ^ bits.length * y ∧ (y = 0 → Norm bits) ∧ Below w.heap.size w wr ∧ RB wr w.heap.size) (fun x _ _ => (intOf x).toNat)
 case atStart => exact ⟨u, none, 0, [], rfl, rfl, own_nil _ _ _, Bin.nil, by simp [bval], fun _ => Norm.nil, since_alloc (Below.refl _ _) _, RB.new _ _⟩
 case round =>
  obtain ⟨y, A, c, bits, rfl, rfl, hown, hbin, hu2, hn, hB, hR⟩ := hrel
  rcases Nat.eq_zero_or_pos y with h0 | hpos
  ·subst h0;have hz : bval bits = u := by omega
   have HN := hJz (hn rfl);have hcap := own_cap' hown;have hsl := Sl.of_own hown;obtain ⟨r0, r1, r2, r3⟩ := hR
   have hlt : ∀ b o, A = some ⟨b, o, none⟩ → 0 < bits.length → b ≠ w.heap.size := fun b o h hp => by
    obtain ⟨g, e1, e2, _⟩ := own_at hown hp;rw [h] at e1;injection e1 with e1;injection e1 with e1;omega
   have KEY : ∀ W, Sl W A (by8 bits) → BigAt W false A bits.length c (u : Int) := fun W h =>
    ⟨bits, rfl, hcap.1, hcap.2, h, HN.out, (fun h => nomatch h), by simp [hz]⟩
   clear hu2 hz hn
   go_wp2
   refine bodyPost_ret (v := .agg #[.bool false, .slice A bits.length c]) ?_ rfl ?_
   ·simp [results, Tryz.results71, go_sem, cell_set, r1, r2]
   ·refine ⟨⟨A, bits.length, c, rfl, (Fr.own hown).le (Nat.le_succ _) (Nat.le_refl _), KEY _ ?_⟩, ?_⟩
    ·rcases Nat.eq_zero_or_pos bits.length with h0 | h0
     ·rw [List.eq_nil_of_length_eq_zero h0]; exact Sl.nil
     ·exact (hsl.far (fun b o h => hlt b o h h0) _).far (fun b o h => hlt b o h h0) _
    ·repeat' (first | with_reducible exact hB | with_reducible refine Below.setCell ?_ ?_ _)
     all_goals first | (simp; done) | (simp; omega)
  ·have hlen : bits.length < 64 := by
    refine Decidable.byContradiction fun hge => ?_;have : 2 ^ 64 ≤ 2 ^ bits.length := Nat.pow_le_pow_right (by omega) (by omega);have h2 : 2 ^ bits.length * 1 ≤ 2 ^ bits.length * y := Nat.mul_le_mul_left _ hpos;omega
   have hy : y < 18446744073709551616 := by
    have : 1 * y ≤ 2 ^ bits.length * y := Nat.mul_le_mul_right _ (Nat.pow_pos (by omega));omega
   have hm2 : y % 2 < 2 := Nat.mod_lt _ (by omega);have hm0 : 0 ≤ (y : Int) % 2 := by omega
   have hm1 : (y : Int) % 2 < 256 := by omega
   have hv : u = bval (bits ++ [y % 2]) + 2 ^ (bits ++ [y % 2]).length * (y / 2) := by
    rw [bval_snoc, List.length_append, List.length_singleton, Nat.pow_succ, Nat.mul_assoc, Nat.add_assoc, ← Nat.mul_add, Nat.mod_add_div];exact hu2
   have hN : y / 2 = 0 → Norm (bits ++ [y % 2]) := fun h => by
    have h1 : y = 1 := by omega
    subst h1;refine ⟨hbin.snoc (by omega), fun j hj hl => ?_⟩;simp at hl;subst hl;simp
   have HV := hJz hv;have HN := hJz hN;clear hv hN hn hu2
   go_wp2_with (first
    | (at_builtin; refine wpList_app rfl (.tmp 6) (.tmp 10) rfl EU rfl rfl (hown.alloc _) (m := 1) (news := [_]) rfl (Sl.new_ _ _ _) (by intro u hu; simp at hu; rw [hu]; rfl) (by unfold maxLen; omega) (by omega) (by have := hB.size; have := hR.1; simp; omega) ?_; intro A2 c2 w2 hown2 hg2 hb2)
    | fail)
   have hB2 := (since_alloc hB _).trans (hb2.mono (Nat.le_succ _));have hR2 := (hR.alloc _).far hb2 (Nat.lt_succ_self _);go_roundw
   case rel =>
    refine ⟨y / 2, A2, c2, bits ++ [y % 2], (by first | rfl | go_num), by simp, ?_, hbin.snoc (by omega), HV.out, HN.out, hB2, hR2⟩;simpa [by8_append, by8] using hown2
   case measure => simp [intOf] <;> omega
end
end Go.Proofs.YtpmnjojednbnpaaGreatDoor
