import Derived.Test.YtpmnjojednbnpaaGreatDoorWf10
import Derived.Test.YtpmnjojednbnpaaGreatDoorWf23
set_option maxHeartbeats 16000000
set_option maxRecDepth 100000
set_option linter.unusedVariables false
set_option linter.unusedSimpArgs false
namespace Go.Proofs.YtpmnjojednbnpaaGreatDoor
open Go.ChangeShapes Go.WideShapes Go.ChangeAt Go.RowKit
section
theorem S8_ext (l : List UInt8) (a b : Nat) : (S8 l).extract a b = S8 ((l.drop a).take (b - a)) := by
 apply ByteArray.ext
 rw [ByteArray.data_extract];simp [S8]
theorem S8_one {l : List UInt8} {k : Nat} (h : k < l.length) : (S8 l).extract k (k + 1) = S8 [l[k]] := by
 rw [S8_ext]
 congr 1
 rw [List.drop_eq_getElem_cons h, Nat.add_sub_cancel_left];rfl
theorem S8_pre (l : List UInt8) (k : Nat) : (S8 l).extract 0 k = S8 (l.take k) := by rw [S8_ext]; simp
theorem S8_post (l : List UInt8) (k : Nat) : (S8 l).extract k (S8 l).size = S8 (l.drop k) := by rw [S8_ext, S8_size, ← List.length_drop, List.take_length]
theorem cut1_none' {l : List UInt8} (h : (46 : UInt8) ∉ l) : cut1 l = none := by
 cases hc : cut1 l with
 | none => rfl
 | some p =>
  exfalso
  obtain ⟨a, b⟩ := p;rw [(cut1_some hc).1] at h;exact h (by simp)
theorem unitD_none {l : List UInt8} (h : (46 : UInt8) ∉ l) : unitD l = none := by unfold unitD; rw [cut1_none' h]
theorem unitD_at {l : List UInt8} {k : Nat} (hk : k < l.length) (h : (46 : UInt8) ∉ l.take k) (h46 : l[k] = 46) : unitD l = match numD (l.take k), numD (l.drop (k + 1)) with
  | some x, some y => some (x, y)
  | _, _ => none := by
 have e : l = l.take k ++ 46 :: l.drop (k + 1) := by rw [← h46, ← List.drop_eq_getElem_cons hk, List.take_append_drop]
 have hc := cut1_free (b := l.drop (k + 1)) h;rw [← e] at hc;unfold unitD;rw [hc];rfl
theorem unit_two {l : List UInt8} {A B : Option Int} (h : unitD l = match A, B with
  | some x, some y => some (x, y)
  | _, _ => none) : (unitD l).isSome = (A.isSome && B.isSome) ∧ ∀ p, unitD l = some p → p = (A.getD 0, B.getD 0) := by
 rw [h]
 cases A <;> cases B <;> simp
theorem runitb40 (l : List UInt8) (w : World) (hl : l.length ≤ 100000) :
  Calls Tryz.prog 44 #[.string (S8 l)] w fun e w' => (∃ x y, e = .returned (.tuple #[.agg #[.int .i64 x, .int .i64 y], .bool (unitD l).isSome]) ∧ ∀ p, unitD l = some p → p = (x, y)) ∧ Below w.heap.size w w' := by
 obtain ⟨s, hs⟩ : ∃ s, s = S8 l := ⟨_, rfl⟩;have hsz : s.size = l.length := by rw [hs]; exact S8_size l
 have HAT : Hid (∀ k (h : k < s.size), ∃ h2 : k < l.length, s[k] = l[k]) := hJz fun k h => by
  subst hs;have h2 : k < l.length := by rw [S8_size] at h; exact h
  exact ⟨h2, S8_at h h2⟩
 have HP1 : Hid (∀ k, s.extract 0 k = S8 (l.take k)) := hJz (by rw [hs]; exact S8_pre l);have HP2 : Hid (∀ k, s.extract k s.size = S8 (l.drop k)) := hJz (by rw [hs]; exact S8_post l);have HSZ := hJz hsz;have hal := since_alloc (Below.refl _ w) (.cells #[.int .i64 0, .int .i64 0] 23);have hx := heap_alloc_new w (.cells #[.int .i64 0, .int .i64 0] 23);obtain ⟨q, hq⟩ : ∃ q, w.heap.size = q := ⟨_, rfl⟩;obtain ⟨W1, hW1⟩ : ∃ W1, w.alloc (.cells #[.int .i64 0, .int .i64 0] 23) = W1 := ⟨_, rfl⟩;rw [hW1] at hal hx;rw [hq] at hal hx ⊢;have HQ := hJz hq;have HW1 := hJz hW1;have HAL := hJz hal;have hql := (Array.getElem?_eq_some_iff.1 hx).1
 have HX : Hid (∀ V, Below W1.heap.size W1 V → V.cell? ⟨q, 0, none⟩ = some (.int .i64 0) ∧ V.cell? ⟨q, 1, none⟩ = some (.int .i64 0) ∧ V.frozen? ⟨q, 0, none⟩ = false ∧ V.frozen? ⟨q, 1, none⟩ = false ∧ q < V.heap.size) := hJz fun V hV => by
  have h := (hV.block q hql).trans hx;exact ⟨(cell_of_row V q 0 _ _ (0, 0) h).trans rfl, (cell_of_row V q 1 _ _ (0, 0) h).trans rfl, by simp [World.frozen?, h], by simp [World.frozen?, h], (Array.getElem?_eq_some_iff.1 h).1⟩
 rw [← hs];clear hal hx hq hW1 hql hs;go_enter Tryz.func44, Tryz.ntmps44;go_upto_region 1 with fail;rw [HW1.out, HQ.out];go_wp2_with fail;go_loopw [4] (fun iv wr => ∃ k : Nat, k ≤ l.length ∧ iv = .int .i64 (k : Int) ∧ (46 : UInt8) ∉ l.take k ∧ W1 = wr) (fun iv _ => l.length - (intOf iv).toNat)
 case atStart => exact ⟨0, by omega, rfl, by simp, rfl⟩
 case round =>
  obtain ⟨k, hk, rfl, hf, rfl⟩ := hrel;have hcs := @cell_set
  by_cases hkl : k < l.length
  ·have hks : k < s.size := by omega
   have hki : (k : Int) < (l.length : Int) := by omega
   have hk0 : (0 : Int) ≤ (k : Int) := by omega
   have hk1 : (k : Int) ≤ (l.length : Int) := by omega
   have hk2 : (0 : Int) ≤ (k : Int) + 1 := by omega
   have hk3 : (k : Int) + 1 ≤ (l.length : Int) := by omega
   obtain ⟨h2, hat⟩ := HAT.out k hks;obtain ⟨ch, hch⟩ : ∃ ch : UInt8, l[k] = ch := ⟨_, rfl⟩;rw [hch] at hat
   by_cases h46 : ch = 46
   ·have hv : ((s[k].toNat : Nat) : Int) = 46 := by rw [hat, h46]; rfl
    have hu := unit_two (unitD_at hkl hf (by rw [hch, h46]));have hn1 := fun V => rnumb40 (l.take k) V (by rw [List.length_take]; omega);have hn2 := fun V => rnumb40 (l.drop (k + 1)) V (by rw [List.length_drop]; omega);unfold numA at hn1 hn2;obtain ⟨D1, hD1⟩ : ∃ D, numD (l.take k) = D := ⟨_, rfl⟩;obtain ⟨D2, hD2⟩ : ∃ D, numD (l.drop (k + 1)) = D := ⟨_, rfl⟩;rw [hD1, hD2] at hu;rw [hD1] at hn1;rw [hD2] at hn2;obtain ⟨a1, ha1⟩ : ∃ a, D1.getD 0 = a := ⟨_, rfl⟩;obtain ⟨a2, ha2⟩ : ∃ a, D2.getD 0 = a := ⟨_, rfl⟩;obtain ⟨b1, hb1⟩ : ∃ a, D1.isSome = a := ⟨_, rfl⟩;obtain ⟨b2, hb2⟩ : ∃ a, D2.isSome = a := ⟨_, rfl⟩;rw [ha1, ha2, hb1, hb2] at hu;rw [ha1, hb1] at hn1;rw [ha2, hb2] at hn2;have HU := hJz hu;have HN1 := hJz hn1;have HN2 := hJz hn2;have p1 := HP1.out k;have p2 : s.extract (k + 1) l.length = S8 (l.drop (k + 1)) := by rw [← HSZ.out]; exact HP2.out (k + 1)
    have hw1 : IntKind.i64.wrap ((k : Int) + 1) = (k : Int) + 1 := IntWalk.i64_in _ (by omega);have htn : ((k : Int) + 1).toNat = k + 1 := by omega
    clear hat hch h46 hf hu hn1 hn2 hD1 hD2 ha1 ha2 hb1 hb2;go_wp2_with fail;refine (HN1.out _).mono ?_;rintro e y1 ⟨rfl, hb1⟩;have HB1 := hJz hb1;clear hb1;go_wp2_with fail;refine (HN2.out _).mono ?_;rintro e y2 ⟨rfl, hb2⟩;have hb2 := since_step HB1.out hb2;obtain ⟨kq0, kq1, f0, f1, hql⟩ := HX.out y2 hb2;have HB2 := hJz (HAL.out.trans (hb2.mono (by have := (HX.out W1 (Below.refl _ _)).2.2.2.2; omega)));clear hb2
    cases b1 with
    | false =>
     have HU2 := hJz HU.out;go_wp2_with fail
     refine bodyPost_ret (v := .tuple #[.agg #[.int .i64 a1, .int .i64 a2], .bool false]) ?_ rfl ⟨⟨a1, a2, ?_, ?_⟩, ?_⟩
     ·simp [results, Tryz.results44, go_sem, kq0, kq1, f0, f1, hcs]
     ·rw [HU.out.1]; rfl
     ·exact HU.out.2
     ·exact (HB2.out.setCell (Nat.le_refl _) _).setCell (Nat.le_refl _) _
    | true =>
     go_wp2_with fail
     refine bodyPost_ret (v := .tuple #[.agg #[.int .i64 a1, .int .i64 a2], .bool b2]) ?_ rfl ⟨⟨a1, a2, ?_, ?_⟩, ?_⟩
     ·simp [results, Tryz.results44, go_sem, kq0, kq1, f0, f1, hcs]
     ·rw [HU.out.1]; rfl
     ·exact HU.out.2
     ·exact (HB2.out.setCell (Nat.le_refl _) _).setCell (Nat.le_refl _) _
   ·have hv : (((s[k].toNat : Nat) : Int) == 46) = false := by
     rw [hat, beq_eq_false_iff_ne];intro e;exact h46 (UInt8.toNat_inj.1 (by show ch.toNat = 46; omega))
    have HF : Hid ((46 : UInt8) ∉ l.take (k + 1)) := hJz (by
     rw [take_snoc l k hkl, hch];intro hm
     rcases List.mem_append.1 hm with hm | hm
     ·exact hf hm
     ·exact h46 (List.mem_singleton.1 hm).symm)
    clear hat hch h46 hf;go_wp2_with fail;go_roundw
    case rel => exact ⟨k + 1, by omega, by go_num, HF.out, trivial⟩
    case measure => simp [intOf]; omega
  ·obtain rfl : k = l.length := by omega
   rw [List.take_length] at hf;have HU := hJz (unitD_none hf);obtain ⟨kq0, kq1, f0, f1, hql⟩ := HX.out W1 (Below.refl _ _);clear hf;go_wp2_with fail
   refine bodyPost_ret (v := .tuple #[.agg #[.int .i64 0, .int .i64 0], .bool false]) ?_ rfl ⟨⟨0, 0, ?_, ?_⟩, ?_⟩
   ·simp [results, Tryz.results44, go_sem, kq0, kq1, f0, f1, hcs]
   ·rw [HU.out]; rfl
   ·intro p hp; rw [HU.out] at hp; cases hp
   ·exact (HAL.out.setCell (Nat.le_refl _) _).setCell (Nat.le_refl _) _
theorem splD_snoc (c : UInt8) : ∀ (l : List UInt8) (L : List (List UInt8)) (x : List UInt8) (b : UInt8), splD c l = L ++ [x] → splD c (l ++ [b]) = if b = c then L ++ [x] ++ [[]] else L ++ [x ++ [b]]
 | [], L, x, b, h => by
  cases L with
  | nil =>
   have hx : x = [] := by simpa [splD] using h.symm
   subst hx;rw [List.nil_append, splD]
   split <;> rfl
  | cons y L' => simp [splD] at h
 | a :: l, L, x, b, h => by
  rw [List.cons_append, splD];rw [splD] at h
  by_cases ha : a = c
  ·rw [if_pos ha] at h ⊢
   cases L with
   | nil =>
    rw [List.nil_append] at h;injection h with _ h2;exact absurd h2 (splD_ne c l)
   | cons y L' =>
    rw [List.cons_append] at h;injection h with h1 h2;subst h1;rw [splD_snoc c l L' x b h2]
    split <;> rfl
  ·rw [if_neg ha] at h ⊢
   cases hs : splD c l with
   | nil => exact absurd hs (splD_ne c l)
   | cons y t =>
    rw [hs, consH] at h
    cases L with
    | nil =>
     rw [List.nil_append] at h;injection h with h1 h2;subst h1;subst h2;rw [splD_snoc c l [] y b hs]
     split <;> rfl
    | cons z L' =>
     rw [List.cons_append] at h;injection h with h1 h2;subst h1;rw [splD_snoc c l (y :: L') x b (by rw [hs, h2]; rfl)]
     split <;> rfl
theorem rsplit40 (l : List UInt8) (w : World) (hl : l.length ≤ 100000) :
  Calls Tryz.prog 42 #[.string (S8 l)] w fun e w' => (∃ A c, e = .returned (.slice A (splD 32 l).length c) ∧ w'.ownsRow w.heap.size 9 1 (.slice A (splD 32 l).length c) (splD 32 l).length (strs (splD 32 l))) ∧ Below w.heap.size w w' := by
 obtain ⟨s, hs⟩ : ∃ s, s = S8 l := ⟨_, rfl⟩;have hsz : s.size = l.length := by rw [hs]; exact S8_size l
 have HAT : Hid (∀ k (h : k < s.size), ∃ h2 : k < l.length, s[k] = l[k]) := hJz fun k h => by
  subst hs;have h2 : k < l.length := by rw [S8_size] at h; exact h
  exact ⟨h2, S8_at h h2⟩
 have HP1 : Hid (∀ k, (h : k < l.length) → s.extract k (k + 1) = S8 [l[k]]) := hJz fun k h => by rw [hs]; exact S8_one h
 have HSL := hJz (fun k => splD_len 32 (l.take k));have HSX := hJz (fun k => splD_piece 32 (l.take k));have HB0 := hJz (Below.refl w.heap.size w);rw [← hs];clear hs;go_enter Tryz.func42, Tryz.ntmps42;go_wp2_with fail;go_loopw [3, 4, 5] (fun ov wv iv wr => ∃ (k : Nat) (L : List (List UInt8)) (x : List UInt8) (A : Option Addr) (c : Nat), k ≤ l.length ∧ iv = .int .i64 (k : Int) ∧ splD 32 (l.take k) = L ++ [x] ∧ ov = .slice A L.length c ∧ wv = .string (S8 x) ∧ wr.ownsRow w.heap.size 9 1 (.slice A L.length c) L.length (strs L) ∧ Below w.heap.size w wr) (fun _ _ iv _ => l.length - (intOf iv).toNat)
 case atStart => exact ⟨0, [], [], none, 0, by omega, rfl, by simp [splD], rfl, rfl, own_nil _ _ _, HB0.out⟩
 case round =>
  obtain ⟨k, L, x, A, c, hk, rfl, hsp, rfl, rfl, hown, hB⟩ := hrel
  have hlen : L.length + 1 ≤ l.length + 1 := by
   have h1 := HSL.out k;rw [hsp, List.length_append, List.length_take] at h1;simp only [List.length_cons, List.length_nil] at h1;omega
  have hxl : x.length ≤ l.length := by
   have h1 := HSX.out k x (by rw [hsp]; simp);rw [List.length_take] at h1;omega
  have HO6 := hJz (hown.alloc (.cells #[.string (S8 x)] 9));have HZ6 : Hid (w.heap.size ≤ wr.heap.size + 1) := hJz (by have := hB.size; omega);have HB6 := hJz (hB.trans ((since_alloc (Below.refl _ wr) (.cells #[.string (S8 x)] 9)).mono hB.size))
  by_cases hkl : k < l.length
  ·have hks : k < s.size := by omega
   have hki : (k : Int) < (l.length : Int) := by omega
   have hk0 : (0 : Int) ≤ (k : Int) := by omega
   obtain ⟨h2, hat⟩ := HAT.out k hks;have hex := HP1.out k hkl;obtain ⟨ch, hch⟩ : ∃ ch : UInt8, l[k] = ch := ⟨_, rfl⟩;rw [hch] at hat hex;have hsn := splD_snoc 32 (l.take k) L x ch hsp;have htk : l.take (k + 1) = l.take k ++ [ch] := by rw [take_snoc l k hkl, hch]
   rw [← htk] at hsn
   by_cases h32 : ch = 32
   ·have hv : (((s[k].toNat : Nat) : Int) == 32) = true := by rw [hat, h32]; rfl
    rw [if_pos h32] at hsn;have HSN := hJz hsn;clear hat hch h32 hsn htk hsp hown hB hex h2
    go_wp2_with (first
     | (at_builtin; refine wpList_app rfl (.tmp 16) (.tmp 18) rfl EStr rfl rfl HO6.out (m := 1) (news := [.string (S8 x)]) rfl (Sl.new_ _ _ _) (fun u hu => by simp only [List.mem_cons, List.not_mem_nil, or_false] at hu; subst hu; rfl) (by unfold maxLen; omega) (by omega) (by simp only [World.size_alloc]; exact HZ6.out) ?_; intro A7 c7 w7 own7 hg7 hb7)
     | fail)
    have hB7 := HB6.out;go_roundw
    case rel =>
     refine ⟨k + 1, L ++ [x], [], A7, c7, by omega, by go_num, HSN.out, by rw [List.length_append]; rfl, rfl, ?_, ?_⟩
     ·rw [List.length_append, strs_app];exact own7
     ·exact HB6.out.trans hb7
    case measure => simp [intOf]; omega
   ·have hv : (((s[k].toNat : Nat) : Int) == 32) = false := by
     rw [hat, beq_eq_false_iff_ne];intro e;exact h32 (UInt8.toNat_inj.1 (by show ch.toNat = 32; omega))
    rw [if_neg h32] at hsn;have HSN := hJz hsn;have hw1 : IntKind.i64.wrap ((k : Int) + 1) = (k : Int) + 1 := IntWalk.i64_in _ (by omega);have htn : ((k : Int) + 1).toNat = k + 1 := by omega
    have hk2 : (k : Int) ≤ (k : Int) + 1 := by omega
    have hk3 : (k : Int) + 1 ≤ (l.length : Int) := by omega
    obtain ⟨X1, hX1⟩ : ∃ X, x ++ [ch] = X := ⟨_, rfl⟩;have ad : ∀ W, (Op.stringOp .add (S8 x) (S8 [ch])).run Tryz.prog W = .ok (.string (S8 X1)) W := by rw [← hX1]; exact add_strW x [ch] (by simp only [List.length_cons, List.length_nil]; omega)
    have HX1 := hJz hX1;have HOW := hJz hown;have HBW := hJz hB;clear hat hch h32 hsn htk hsp hown hB hX1 h2;go_wp2_with fail;go_roundw
    case rel => exact ⟨k + 1, L, X1, A, c, by omega, by go_num, by rw [HSN.out, HX1.out], rfl, rfl, HOW.out, HBW.out⟩
    case measure => simp [intOf]; omega
  ·obtain rfl : k = l.length := by omega
   rw [List.take_length] at hsp;have HSP := hJz hsp;clear hsp hown hB
   go_wp2_with (first
    | (at_builtin; refine wpList_app rfl (.tmp 27) (.tmp 29) rfl EStr rfl rfl HO6.out (m := 1) (news := [.string (S8 x)]) rfl (Sl.new_ _ _ _) (fun u hu => by simp only [List.mem_cons, List.not_mem_nil, or_false] at hu; subst hu; rfl) (by unfold maxLen; omega) (by omega) (by simp only [World.size_alloc]; exact HZ6.out) ?_; intro A7 c7 w7 own7 hg7 hb7)
    | fail)
   go_ret
   refine ⟨⟨A7, c7, ?_, ?_⟩, HB6.out.trans hb7⟩
   ·rw [HSP.out, List.length_append]; rfl
   ·rw [HSP.out, List.length_append, strs_app];exact own7
theorem rnames40 (w : World) :
  Calls Tryz.prog 13 #[] w fun e w' => e = .returned (.slice (some ⟨w.heap.size, 0, none⟩) 31 31) ∧ w' = w.alloc (.cells (strs opsW).toArray 9) := by
 go_enter Tryz.func13, Tryz.ntmps13;go_wp2_with fail;go_ret;exact ⟨rfl, rfl⟩
end
end Go.Proofs.YtpmnjojednbnpaaGreatDoor
