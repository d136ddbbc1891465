import Derived.Test.YtpmnjojednbnpaaGreatDoorWf17
set_option maxHeartbeats 16000000
set_option maxRecDepth 100000
set_option linter.unusedVariables false
set_option linter.unusedSimpArgs false
namespace Go.Proofs.YtpmnjojednbnpaaGreatDoor
open Go.ChangeShapes Go.WideShapes Go.ChangeAt Go.RowKit
section
theorem bval_step (l : List Nat) (k : Nat) : bval (l.take (k + 1)) = bval (l.take k) + 2 ^ k * l.getD k 0 := by
 by_cases h : k < l.length
 ·rw [bval_take l k h]; simp [List.getD, h]
 ·rw [List.take_of_length_le (by omega), List.take_of_length_le (by omega)];simp [List.getD, List.getElem?_eq_none (show l.length ≤ k by omega)]
theorem getD_in {l : List Nat} {k : Nat} (h : k < l.length) : l.getD k 0 = l[k] := by simp [List.getD, h]
theorem getD_out {l : List Nat} {k : Nat} (h : ¬ k < l.length) : l.getD k 0 = 0 := by simp [List.getD, List.getElem?_eq_none (show l.length ≤ k by omega)]
def BRow (B : Nat) (w : World) (A : Option Addr) (c : Nat) (out : List Nat) : Prop := (out.length ≤ c ∧ c ≤ maxLen) ∧ Sl w A (by8 out) ∧ Bin out ∧ Fr B A out.length
theorem bplus_any (A B : Option Addr) (ca cb : Nat) (a b : List Nat) (w : World) (la : a.length ≤ 1000000) (lb : b.length ≤ 1000000) (ha : Bin a) (hb : Bin b) (hs : Sl w A (by8 a)) (ht : Sl w B (by8 b)) :
  Calls Tryz.prog 94 #[.slice A a.length ca, .slice B b.length cb] w fun e w' => (∃ A' c' out, e = .returned (.slice A' (List.length out) c') ∧ BRow w.heap.size w' A' c' out ∧ bval out = bval a + bval b ∧
   (out.length = max a.length b.length ∨ (out.length = max a.length b.length + 1 ∧ 2 ^ max a.length b.length ≤ bval out))) ∧ Below w.heap.size w w' := by
 go_enter Tryz.func94, Tryz.ntmps94
 go_wp2
 go_loopw [5, 6, 7] (fun v x i wr => ∃ (k c : Nat) (A' : Option Addr) (c' : Nat) (out : List Nat), i = .int .i64 k ∧ x = .int .u8 (c : Int) ∧ v = .slice A' out.length c' ∧ k ≤ max a.length b.length ∧ out.length = k ∧ c ≤ 1 ∧ wr.ownsRow w.heap.size 5 1 (.slice A' out.length c') out.length (by8 out) ∧ Bin out ∧ bval out + 2 ^ k * c = bval (a.take k) + bval (b.take k) ∧ Below w.heap.size w wr) (fun _ _ i _ => max a.length b.length - (intOf i).toNat)
 case atStart => exact ⟨0, 0, none, 0, [], rfl, rfl, rfl, by omega, rfl, by omega, own_nil _ _ _, Bin.nil, by simp [bval], Below.refl _ _⟩
 case round =>
  obtain ⟨k, c, A', c', out, rfl, rfl, rfl, hk, hlen, hc, hown, hbin, hv, hB⟩ := hrel
  by_cases hlt : k < a.length ∨ k < b.length
  ·have hka := bval_step a k;have hkb := bval_step b k;have hx1 : a.getD k 0 ≤ 1 := by by_cases h : k < a.length; (rw [getD_in h]; exact ha.at_ h); (rw [getD_out h]; omega)
   have hy1 : b.getD k 0 ≤ 1 := by by_cases h : k < b.length; (rw [getD_in h]; exact hb.at_ h); (rw [getD_out h]; omega)
   have hx := fun h : k < a.length => (hs.below hB).byte h;have hy := fun h : k < b.length => (ht.below hB).byte h;have hxg := fun h : k < a.length => getD_in h;have hyg := fun h : k < b.length => getD_in h;have hxo := fun h : ¬ k < a.length => getD_out (l := a) h;have hyo := fun h : ¬ k < b.length => getD_out (l := b) h;generalize a.getD k 0 = x at *;generalize b.getD k 0 = y at *
   have hnew : bval (out ++ [(c + x + y) % 2]) + 2 ^ (k + 1) * ((c + x + y) / 2) = bval (a.take (k + 1)) + bval (b.take (k + 1)) := by
    rw [hka, hkb, bval_snoc, hlen, Nat.pow_succ, Nat.mul_assoc, Nat.add_assoc, ← Nat.mul_add, Nat.mod_add_div];rw [Nat.mul_add, Nat.mul_add];omega
   have HNEW := hJz hnew;have HK := hJz (show k + 1 ≤ max a.length b.length by omega);have hk1 : k < 1000000 := by omega
   clear hnew hka hkb hv hk;have H1 := hJz (show (c + x + y) % 2 ≤ 1 by omega);have H2 := hJz (show (c + x + y) / 2 ≤ 1 by omega);have H3 := hJz hlen;have hout : out.length < 1000000 := by omega
   clear hlen
   by_cases h1 : k < a.length
   ·obtain ⟨b1, o1, rfl, hz1⟩ := hx h1;have hb1 := World.block_lt_of_cell? _ _ hz1;have e1 := hxg h1;rw [← e1] at hz1;clear hx hxg hxo e1
    by_cases h2 : k < b.length
    ·obtain ⟨b2, o2, rfl, hz2⟩ := hy h2;have hb2 := World.block_lt_of_cell? _ _ hz2;have e2 := hyg h2;rw [← e2] at hz2;clear hy hyg hyo e2 hlt
     go_wp2_with (first
      | (at_builtin; refine wpList_app rfl (.tmp 40) (.tmp 43) rfl EU rfl rfl (hown.alloc _) (m := 1) (news := [_]) rfl (Sl.new_ _ _ _) (by intro u hu; simp at hu; rw [hu]; rfl) (by unfold maxLen; omega) (by omega) (by have := hB.size; simp; omega) ?_; intro A2 c2 w2 hown2 hg2 hb2)
      | fail)
     have hB2 := (since_alloc hB _).trans hb2;go_roundw
     case rel => exact ⟨k + 1, (c + x + y) / 2, A2, c2, out ++ [(c + x + y) % 2], by go_num, intE (by simp), by simp, HK.out, by simp [H3.out], H2.out, by simpa [by8_append, by8] using hown2, hbin.snoc H1.out, HNEW.out, hB2⟩
     case measure => simp [intOf]; omega
    ·have e2 := hyo h2;subst e2;clear hy hyg hyo hlt
     go_wp2_with (first
      | (at_builtin; refine wpList_app rfl (.tmp 40) (.tmp 43) rfl EU rfl rfl (hown.alloc _) (m := 1) (news := [_]) rfl (Sl.new_ _ _ _) (by intro u hu; simp at hu; rw [hu]; rfl) (by unfold maxLen; omega) (by omega) (by have := hB.size; simp; omega) ?_; intro A2 c2 w2 hown2 hg2 hb2)
      | fail)
     have hB2 := (since_alloc hB _).trans hb2;go_roundw
     case rel => exact ⟨k + 1, (c + x + 0) / 2, A2, c2, out ++ [(c + x + 0) % 2], by go_num, intE (by simp), by simp, HK.out, by simp [H3.out], H2.out, by simpa [by8_append, by8] using hown2, hbin.snoc H1.out, HNEW.out, hB2⟩
     case measure => simp [intOf]; omega
   ·have h2 : k < b.length := by omega
    have e1 := hxo h1;subst e1;clear hx hxg hxo hlt;obtain ⟨b2, o2, rfl, hz2⟩ := hy h2;have hb2 := World.block_lt_of_cell? _ _ hz2;have e2 := hyg h2;rw [← e2] at hz2;clear hy hyg hyo e2
    go_wp2_with (first
     | (at_builtin; refine wpList_app rfl (.tmp 40) (.tmp 43) rfl EU rfl rfl (hown.alloc _) (m := 1) (news := [_]) rfl (Sl.new_ _ _ _) (by intro u hu; simp at hu; rw [hu]; rfl) (by unfold maxLen; omega) (by omega) (by have := hB.size; simp; omega) ?_; intro A2 c2 w2 hown2 hg2 hb2)
     | fail)
    have hB2 := (since_alloc hB _).trans hb2;go_roundw
    case rel => exact ⟨k + 1, (c + 0 + y) / 2, A2, c2, out ++ [(c + 0 + y) % 2], by go_num, intE (by simp), by simp, HK.out, by simp [H3.out], H2.out, by simpa [by8_append, by8] using hown2, hbin.snoc H1.out, HNEW.out, hB2⟩
    case measure => simp [intOf]; omega
  ·have h1 : ¬ k < a.length := by omega
   have h2 : ¬ k < b.length := by omega
   have hkm : k = max a.length b.length := by omega
   rw [List.take_of_length_le (by omega), List.take_of_length_le (by omega)] at hv;have hout : out.length < 1000001 := by omega
   have H3 := hJz hlen;have HKM := hJz hkm;clear hkm hlen hlt hk
   rcases (show c = 0 ∨ c = 1 by omega) with rfl | rfl
   ·have HV := hJz hv;clear hv
    go_wp2
    go_ret;refine ⟨⟨A', c', out, rfl, ⟨own_cap' hown, Sl.of_own hown, hbin, Fr.own hown⟩, by have := HV.out; omega, .inl (by rw [H3.out, HKM.out])⟩, hB⟩
   ·have HV := hJz hv;clear hv
    go_wp2_with (first
     | (at_builtin; refine wpList_app rfl (.tmp 49) (.tmp 51) rfl EU rfl rfl (hown.alloc _) (m := 1) (news := by8 [1]) rfl (Sl.new_ _ _ _) (by8_one _) (by unfold maxLen; omega) (by omega) (by have := hB.size; simp; omega) ?_; intro A2 c2 w2 hown2 hg2 hb2)
     | fail)
    have hB2 := (since_alloc hB _).trans hb2;rw [← by8_append] at hown2;have hl2 : out.length + 1 = (out ++ [1]).length := by simp
    rw [hl2] at hown2 ⊢;go_ret
    have hvs : bval (out ++ [1]) = bval a + bval b := by
     rw [bval_snoc, H3.out];exact HV.out
    refine ⟨⟨A2, c2, out ++ [1], rfl, ⟨own_cap' hown2, Sl.of_own hown2, hbin.snoc (by omega), Fr.own hown2⟩, hvs, .inr ⟨by simp [H3.out, HKM.out], ?_⟩⟩, hB2⟩;rw [bval_snoc, H3.out, HKM.out];omega
theorem bless_any (A B : Option Addr) (ca cb : Nat) (a b : List Nat) (w : World) (la : a.length ≤ 1000000) (lb : b.length ≤ 1000000) (ha : Norm a) (hb : Norm b) (hs : Sl w A (by8 a)) (ht : Sl w B (by8 b)) :
  Calls Tryz.prog 101 #[.slice A a.length ca, .slice B b.length cb] w fun e w' => e = .returned (.bool (decide (bval a < bval b))) ∧ Below w.heap.size w w' := by
 by_cases hl : a.length = b.length
 ·go_enter Tryz.func101, Tryz.ntmps101;rw [← hl];have HL := hJz hl;clear hl
  go_wp2
  go_loopw [5] (fun i wr => ∃ k : Nat, i = .int .i64 k ∧ k ≤ a.length ∧ a.drop k = b.drop k ∧ Below w.heap.size w wr) (fun i _ => (intOf i).toNat)
  case atStart => exact ⟨a.length, rfl, by omega, by rw [List.drop_of_length_le (by omega), List.drop_of_length_le (by have := HL.out; omega)], Below.refl _ _⟩
  case round =>
   obtain ⟨k, rfl, hk, hd, hB⟩ := hrel
   rcases Nat.eq_zero_or_pos k with h0 | hpos
   ·subst h0;have hab : a = b := by simpa using hd
    go_wp2
    go_ret;exact ⟨retB (by rw [hab]; simp), hB⟩
   ·obtain ⟨m, rfl⟩ : ∃ m, k = m + 1 := ⟨k - 1, by omega⟩;have h1 : m < a.length := by omega
    have h2 : m < b.length := by have := HL.out; omega
    obtain ⟨b1, o1, rfl, hz1⟩ := (hs.below hB).byte h1;obtain ⟨b2, o2, rfl, hz2⟩ := (ht.below hB).byte h2;have hb1 := World.block_lt_of_cell? _ _ hz1;have hb2 := World.block_lt_of_cell? _ _ hz2;have hx := ha.1.at_ h1;have hy := hb.1.at_ h2;have ew : IntKind.i64.wrap (((m + 1 : Nat) : Int) - 1) = (m : Int) := by rw [IntWalk.i64_in _ (by omega)]; omega
    have ew2 : IntKind.i64.wrap ((m : Int) + 1 - 1) = (m : Int) := by rw [IntWalk.i64_in _ (by omega)]; omega
    have hd1 : a.drop m = a[m] :: a.drop (m + 1) := List.drop_eq_getElem_cons h1;have hd2 : b.drop m = b[m] :: b.drop (m + 1) := List.drop_eq_getElem_cons h2;have t1 := fun h => bval_top ha.1 hb.1 HL.out h1 h2 hd h;have t2 := fun h => bval_top hb.1 ha.1 HL.out.symm h2 h1 hd.symm h;have HD1 := hJz hd1;have HD2 := hJz hd2;have HD := hJz hd;clear hd1 hd2 hd;generalize a[m] = x at *;generalize b[m] = y at *
    rcases (show x = y ∨ (x = 0 ∧ y = 1) ∨ (x = 1 ∧ y = 0) by omega) with rfl | ⟨rfl, rfl⟩ | ⟨rfl, rfl⟩
    ·go_wp2
     go_quiet (fail)
     go_wp2
     go_roundw
     case rel => exact ⟨m, (by first | rfl | go_num), by omega, by rw [HD1.out, HD2.out, HD.out], below_drewN hB _⟩
     case measure => simp [intOf] <;> omega
    ·have ht := t1 (by omega);have HT := hJz ht;clear t1 t2 ht
     go_wp2
     go_quiet (fail)
     go_wp2
     go_quiet (fail)
     go_wp2
     go_ret;exact ⟨retB (by simp [HT.out]), below_drewN (below_drewN hB _) _⟩
    ·have ht := t2 (by omega);have HT := hJz ht;clear t1 t2 ht
     go_wp2
     go_quiet (fail)
     go_wp2
     go_quiet (fail)
     go_wp2
     go_ret;exact ⟨retB (by have := HT.out; symm; simp; omega), below_drewN (below_drewN hB _) _⟩
 ·have HL := fun x (h : decide (bval a < bval b) = x) => hJz h;go_enter Tryz.func101, Tryz.ntmps101
  rcases Nat.lt_or_ge a.length b.length with h | h
  ·have H := HL _ (decide_eq_true (ha.lt_len hb h));clear HL
   go_wp2
   go_ret;exact ⟨retB (by rw [H.out]), Below.refl _ _⟩
  ·have h' : b.length < a.length := by omega
   have H := HL _ (decide_eq_false (by have := hb.lt_len ha h'; omega));clear HL
   go_wp2
   go_ret;exact ⟨retB (by rw [H.out]; simp; omega), Below.refl _ _⟩
theorem bminus_any (A B : Option Addr) (ca cb : Nat) (a b : List Nat) (w : World) (la : a.length ≤ 1000000) (hlb : b.length ≤ a.length) (ha : Bin a) (hb : Bin b) (hle : bval b ≤ bval a) (hs : Sl w A (by8 a)) (ht : Sl w B (by8 b)) :
  Calls Tryz.prog 102 #[.slice A a.length ca, .slice B b.length cb] w fun e w' => (∃ A' c' out, e = .returned (.slice A' (List.length out) c') ∧ BRow w.heap.size w' A' c' out ∧ bval out = bval a - bval b ∧ out.length = a.length) ∧ Below w.heap.size w w' := by
 have HLE := hJz hle;clear hle;go_enter Tryz.func102, Tryz.ntmps102
 go_wp2
 go_loopw [5, 6, 7] (fun v x i wr => ∃ (k c : Nat) (A' : Option Addr) (c' : Nat) (out : List Nat), i = .int .i64 k ∧ x = .int .u8 (c : Int) ∧ v = .slice A' out.length c' ∧ k ≤ a.length ∧ out.length = k ∧ c ≤ 1 ∧ wr.ownsRow w.heap.size 5 1 (.slice A' out.length c') out.length (by8 out) ∧ Bin out ∧ bval out + bval (b.take k) = bval (a.take k) + 2 ^ k * c ∧ Below w.heap.size w wr) (fun _ _ i _ => a.length - (intOf i).toNat)
 case atStart => exact ⟨0, 0, none, 0, [], rfl, rfl, rfl, by omega, rfl, by omega, own_nil _ _ _, Bin.nil, by simp [bval], Below.refl _ _⟩
 case round =>
  obtain ⟨k, c, A', c', out, rfl, rfl, rfl, hk, hlen, hc, hown, hbin, hv, hB⟩ := hrel
  by_cases h1 : k < a.length
  ·have hka := bval_step a k;have hkb := bval_step b k;rw [getD_in h1] at hka;have hx1 := ha.at_ h1;have hy1 : b.getD k 0 ≤ 1 := by by_cases h : k < b.length; (rw [getD_in h]; exact hb.at_ h); (rw [getD_out h]; omega)
   obtain ⟨b1, o1, rfl, hz1⟩ := (hs.below hB).byte h1;have hb1 := World.block_lt_of_cell? _ _ hz1;have hy := fun h : k < b.length => (ht.below hB).byte h;have hyg := fun h : k < b.length => getD_in h;have hyo := fun h : ¬ k < b.length => getD_out (l := b) h;generalize a[k] = x at *;generalize b.getD k 0 = y at *
   have hnew : ∀ t r, t ≤ 1 → r ≤ 1 → r + c + y = x + 2 * t → bval (out ++ [r]) + bval (b.take (k + 1)) = bval (a.take (k + 1)) + 2 ^ (k + 1) * t := by
    intro t r _ _ e;rw [hka, hkb, bval_snoc, hlen, Nat.pow_succ, Nat.mul_assoc];have := congrArg (2 ^ k * ·) e;simp only [Nat.mul_add] at this;omega
   have HNEW' := hJz hnew;have HK := hJz (show k + 1 ≤ a.length by omega);have hk1 : k < 1000000 := by omega
   clear hnew hka hkb hv hk;have H3 := hJz hlen;have hout : out.length < 1000000 := by omega
   clear hlen
   by_cases h2 : k < b.length
   ·obtain ⟨b2, o2, rfl, hz2⟩ := hy h2;have hb2 := World.block_lt_of_cell? _ _ hz2;have e2 := hyg h2;rw [← e2] at hz2;clear hy hyg hyo e2
    rcases (show (c = 0 ∧ x = 0 ∧ y = 0) ∨ (c = 0 ∧ x = 0 ∧ y = 1) ∨ (c = 0 ∧ x = 1 ∧ y = 0) ∨ (c = 0 ∧ x = 1 ∧ y = 1) ∨ (c = 1 ∧ x = 0 ∧ y = 0) ∨ (c = 1 ∧ x = 0 ∧ y = 1) ∨ (c = 1 ∧ x = 1 ∧ y = 0) ∨ (c = 1 ∧ x = 1 ∧ y = 1) by omega) with ⟨rfl, rfl, rfl⟩ | ⟨rfl, rfl, rfl⟩ | ⟨rfl, rfl, rfl⟩ | ⟨rfl, rfl, rfl⟩ | ⟨rfl, rfl, rfl⟩ | ⟨rfl, rfl, rfl⟩ | ⟨rfl, rfl, rfl⟩ | ⟨rfl, rfl, rfl⟩
    ·have HNEW := hJz (HNEW'.out 0 0 (by omega) (by omega) (by omega))
     go_wp2_with (first
      | (at_builtin; refine wpList_app rfl (.tmp 36) (.tmp 39) rfl EU rfl rfl (hown.alloc _) (m := 1) (news := [_]) rfl (Sl.new_ _ _ _) (by intro u hu; simp at hu; rw [hu]; rfl) (by unfold maxLen; omega) (by omega) (by have := hB.size; simp; omega) ?_; intro A2 c2 w2 hown2 hg2 hb2)
      | fail)
     have hB2 := (since_alloc hB _).trans hb2;go_roundw
     case rel => exact ⟨k + 1, 0, A2, c2, out ++ [0], by go_num, rfl, by simp, HK.out, by simp [H3.out], by omega, by simpa [by8_append, by8] using hown2, hbin.snoc (by omega), HNEW.out, hB2⟩
     case measure => simp [intOf]; omega
    ·have HNEW := hJz (HNEW'.out 1 1 (by omega) (by omega) (by omega))
     go_wp2_with (first
      | (at_builtin; refine wpList_app rfl (.tmp 36) (.tmp 39) rfl EU rfl rfl (hown.alloc _) (m := 1) (news := [_]) rfl (Sl.new_ _ _ _) (by intro u hu; simp at hu; rw [hu]; rfl) (by unfold maxLen; omega) (by omega) (by have := hB.size; simp; omega) ?_; intro A2 c2 w2 hown2 hg2 hb2)
      | fail)
     have hB2 := (since_alloc hB _).trans hb2;go_roundw
     case rel => exact ⟨k + 1, 1, A2, c2, out ++ [1], by go_num, rfl, by simp, HK.out, by simp [H3.out], by omega, by simpa [by8_append, by8] using hown2, hbin.snoc (by omega), HNEW.out, hB2⟩
     case measure => simp [intOf]; omega
    ·have HNEW := hJz (HNEW'.out 0 1 (by omega) (by omega) (by omega))
     go_wp2_with (first
      | (at_builtin; refine wpList_app rfl (.tmp 36) (.tmp 39) rfl EU rfl rfl (hown.alloc _) (m := 1) (news := [_]) rfl (Sl.new_ _ _ _) (by intro u hu; simp at hu; rw [hu]; rfl) (by unfold maxLen; omega) (by omega) (by have := hB.size; simp; omega) ?_; intro A2 c2 w2 hown2 hg2 hb2)
      | fail)
     have hB2 := (since_alloc hB _).trans hb2;go_roundw
     case rel => exact ⟨k + 1, 0, A2, c2, out ++ [1], by go_num, rfl, by simp, HK.out, by simp [H3.out], by omega, by simpa [by8_append, by8] using hown2, hbin.snoc (by omega), HNEW.out, hB2⟩
     case measure => simp [intOf]; omega
    ·have HNEW := hJz (HNEW'.out 0 0 (by omega) (by omega) (by omega))
     go_wp2_with (first
      | (at_builtin; refine wpList_app rfl (.tmp 36) (.tmp 39) rfl EU rfl rfl (hown.alloc _) (m := 1) (news := [_]) rfl (Sl.new_ _ _ _) (by intro u hu; simp at hu; rw [hu]; rfl) (by unfold maxLen; omega) (by omega) (by have := hB.size; simp; omega) ?_; intro A2 c2 w2 hown2 hg2 hb2)
      | fail)
     have hB2 := (since_alloc hB _).trans hb2;go_roundw
     case rel => exact ⟨k + 1, 0, A2, c2, out ++ [0], by go_num, rfl, by simp, HK.out, by simp [H3.out], by omega, by simpa [by8_append, by8] using hown2, hbin.snoc (by omega), HNEW.out, hB2⟩
     case measure => simp [intOf]; omega
    ·have HNEW := hJz (HNEW'.out 1 1 (by omega) (by omega) (by omega))
     go_wp2_with (first
      | (at_builtin; refine wpList_app rfl (.tmp 36) (.tmp 39) rfl EU rfl rfl (hown.alloc _) (m := 1) (news := [_]) rfl (Sl.new_ _ _ _) (by intro u hu; simp at hu; rw [hu]; rfl) (by unfold maxLen; omega) (by omega) (by have := hB.size; simp; omega) ?_; intro A2 c2 w2 hown2 hg2 hb2)
      | fail)
     have hB2 := (since_alloc hB _).trans hb2;go_roundw
     case rel => exact ⟨k + 1, 1, A2, c2, out ++ [1], by go_num, rfl, by simp, HK.out, by simp [H3.out], by omega, by simpa [by8_append, by8] using hown2, hbin.snoc (by omega), HNEW.out, hB2⟩
     case measure => simp [intOf]; omega
    ·have HNEW := hJz (HNEW'.out 1 0 (by omega) (by omega) (by omega))
     go_wp2_with (first
      | (at_builtin; refine wpList_app rfl (.tmp 36) (.tmp 39) rfl EU rfl rfl (hown.alloc _) (m := 1) (news := [_]) rfl (Sl.new_ _ _ _) (by intro u hu; simp at hu; rw [hu]; rfl) (by unfold maxLen; omega) (by omega) (by have := hB.size; simp; omega) ?_; intro A2 c2 w2 hown2 hg2 hb2)
      | fail)
     have hB2 := (since_alloc hB _).trans hb2;go_roundw
     case rel => exact ⟨k + 1, 1, A2, c2, out ++ [0], by go_num, rfl, by simp, HK.out, by simp [H3.out], by omega, by simpa [by8_append, by8] using hown2, hbin.snoc (by omega), HNEW.out, hB2⟩
     case measure => simp [intOf]; omega
    ·have HNEW := hJz (HNEW'.out 0 0 (by omega) (by omega) (by omega))
     go_wp2_with (first
      | (at_builtin; refine wpList_app rfl (.tmp 36) (.tmp 39) rfl EU rfl rfl (hown.alloc _) (m := 1) (news := [_]) rfl (Sl.new_ _ _ _) (by intro u hu; simp at hu; rw [hu]; rfl) (by unfold maxLen; omega) (by omega) (by have := hB.size; simp; omega) ?_; intro A2 c2 w2 hown2 hg2 hb2)
      | fail)
     have hB2 := (since_alloc hB _).trans hb2;go_roundw
     case rel => exact ⟨k + 1, 0, A2, c2, out ++ [0], by go_num, rfl, by simp, HK.out, by simp [H3.out], by omega, by simpa [by8_append, by8] using hown2, hbin.snoc (by omega), HNEW.out, hB2⟩
     case measure => simp [intOf]; omega
    ·have HNEW := hJz (HNEW'.out 1 1 (by omega) (by omega) (by omega))
     go_wp2_with (first
      | (at_builtin; refine wpList_app rfl (.tmp 36) (.tmp 39) rfl EU rfl rfl (hown.alloc _) (m := 1) (news := [_]) rfl (Sl.new_ _ _ _) (by intro u hu; simp at hu; rw [hu]; rfl) (by unfold maxLen; omega) (by omega) (by have := hB.size; simp; omega) ?_; intro A2 c2 w2 hown2 hg2 hb2)
      | fail)
     have hB2 := (since_alloc hB _).trans hb2;go_roundw
     case rel => exact ⟨k + 1, 1, A2, c2, out ++ [1], by go_num, rfl, by simp, HK.out, by simp [H3.out], by omega, by simpa [by8_append, by8] using hown2, hbin.snoc (by omega), HNEW.out, hB2⟩
     case measure => simp [intOf]; omega
   ·have e2 := hyo h2;subst e2;clear hy hyg hyo
    rcases (show (c = 0 ∧ x = 0) ∨ (c = 0 ∧ x = 1) ∨ (c = 1 ∧ x = 0) ∨ (c = 1 ∧ x = 1) by omega) with ⟨rfl, rfl⟩ | ⟨rfl, rfl⟩ | ⟨rfl, rfl⟩ | ⟨rfl, rfl⟩
    ·have HNEW := hJz (HNEW'.out 0 0 (by omega) (by omega) (by omega))
     go_wp2_with (first
      | (at_builtin; refine wpList_app rfl (.tmp 36) (.tmp 39) rfl EU rfl rfl (hown.alloc _) (m := 1) (news := [_]) rfl (Sl.new_ _ _ _) (by intro u hu; simp at hu; rw [hu]; rfl) (by unfold maxLen; omega) (by omega) (by have := hB.size; simp; omega) ?_; intro A2 c2 w2 hown2 hg2 hb2)
      | fail)
     have hB2 := (since_alloc hB _).trans hb2;go_roundw
     case rel => exact ⟨k + 1, 0, A2, c2, out ++ [0], by go_num, rfl, by simp, HK.out, by simp [H3.out], by omega, by simpa [by8_append, by8] using hown2, hbin.snoc (by omega), HNEW.out, hB2⟩
     case measure => simp [intOf]; omega
    ·have HNEW := hJz (HNEW'.out 0 1 (by omega) (by omega) (by omega))
     go_wp2_with (first
      | (at_builtin; refine wpList_app rfl (.tmp 36) (.tmp 39) rfl EU rfl rfl (hown.alloc _) (m := 1) (news := [_]) rfl (Sl.new_ _ _ _) (by intro u hu; simp at hu; rw [hu]; rfl) (by unfold maxLen; omega) (by omega) (by have := hB.size; simp; omega) ?_; intro A2 c2 w2 hown2 hg2 hb2)
      | fail)
     have hB2 := (since_alloc hB _).trans hb2;go_roundw
     case rel => exact ⟨k + 1, 0, A2, c2, out ++ [1], by go_num, rfl, by simp, HK.out, by simp [H3.out], by omega, by simpa [by8_append, by8] using hown2, hbin.snoc (by omega), HNEW.out, hB2⟩
     case measure => simp [intOf]; omega
    ·have HNEW := hJz (HNEW'.out 1 1 (by omega) (by omega) (by omega))
     go_wp2_with (first
      | (at_builtin; refine wpList_app rfl (.tmp 36) (.tmp 39) rfl EU rfl rfl (hown.alloc _) (m := 1) (news := [_]) rfl (Sl.new_ _ _ _) (by intro u hu; simp at hu; rw [hu]; rfl) (by unfold maxLen; omega) (by omega) (by have := hB.size; simp; omega) ?_; intro A2 c2 w2 hown2 hg2 hb2)
      | fail)
     have hB2 := (since_alloc hB _).trans hb2;go_roundw
     case rel => exact ⟨k + 1, 1, A2, c2, out ++ [1], by go_num, rfl, by simp, HK.out, by simp [H3.out], by omega, by simpa [by8_append, by8] using hown2, hbin.snoc (by omega), HNEW.out, hB2⟩
     case measure => simp [intOf]; omega
    ·have HNEW := hJz (HNEW'.out 0 0 (by omega) (by omega) (by omega))
     go_wp2_with (first
      | (at_builtin; refine wpList_app rfl (.tmp 36) (.tmp 39) rfl EU rfl rfl (hown.alloc _) (m := 1) (news := [_]) rfl (Sl.new_ _ _ _) (by intro u hu; simp at hu; rw [hu]; rfl) (by unfold maxLen; omega) (by omega) (by have := hB.size; simp; omega) ?_; intro A2 c2 w2 hown2 hg2 hb2)
      | fail)
     have hB2 := (since_alloc hB _).trans hb2;go_roundw
     case rel => exact ⟨k + 1, 0, A2, c2, out ++ [0], by go_num, rfl, by simp, HK.out, by simp [H3.out], by omega, by simpa [by8_append, by8] using hown2, hbin.snoc (by omega), HNEW.out, hB2⟩
     case measure => simp [intOf]; omega
  ·have hkm : k = a.length := by omega
   have hz : c = 0 := by
    rw [List.take_of_length_le (by omega), List.take_of_length_le (by omega), hkm] at hv;have h2 := bval_lt hbin;rw [hlen, hkm] at h2;have h3 := HLE.out
    rcases (show c = 0 ∨ c = 1 by omega) with rfl | rfl
    ·rfl
    ·omega
   subst hz;rw [List.take_of_length_le (by omega), List.take_of_length_le (by omega)] at hv;have HV := hJz hv;have HL := hJz hlen;have HK := hJz hkm;clear hv hlen hkm
   go_wp2
   go_ret;exact ⟨⟨A', c', out, rfl, ⟨own_cap' hown, Sl.of_own hown, hbin, Fr.own hown⟩, by have := HV.out; omega, by rw [HL.out, HK.out]⟩, hB⟩
end
end Go.Proofs.YtpmnjojednbnpaaGreatDoor
