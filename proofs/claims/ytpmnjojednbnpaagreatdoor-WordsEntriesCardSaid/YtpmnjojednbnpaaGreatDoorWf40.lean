import Derived.Test.YtpmnjojednbnpaaGreatDoorWf26
import Derived.Test.YtpmnjojednbnpaaGreatDoorWf34
import Derived.Test.YtpmnjojednbnpaaGreatDoorWf39
set_option maxHeartbeats 16000000
set_option maxRecDepth 100000
set_option linter.unusedVariables false
set_option linter.unusedSimpArgs false
namespace Go.Proofs.YtpmnjojednbnpaaGreatDoor
open Go.ChangeShapes Go.WideShapes Go.ChangeAt Go.RowKit
section
theorem Chg.any {g g2 : Nat} {row : Option Nat} {w w' : World} (h : Chg g row w w') (hg : w.heap.size ≤ g) : Chg g2 row w w' :=
 ⟨h.os, h.tape, h.output, h.size, fun k hk _ hr => h.block k hk (by omega) hr⟩
structure Rt (W : Nat) (RW : Option Nat) (A : Option Addr) (c : Nat) (bs : List Nat) (w w' : World) : Prop where
  own : w'.ownsRow W 5 1 (.slice A (bs).length c) (bs).length (by8 (bs))
  chg : Chg w.heap.size RW w w'
  row : ob A bs c = RW ∨ ∃ r, ob A bs c = some r ∧ w.heap.size ≤ r
section
variable {W g : Nat} {RW : Option Nat} {A A2 : Option Addr} {c c2 : Nat} {bs bs2 : List Nat} {w w' w2 : World}
theorem Rt.refl (h : w.ownsRow W 5 1 (.slice A (bs).length c) (bs).length (by8 (bs))) : Rt W (ob A bs c) A c bs w w := ⟨h, Chg.refl _ _ _, .inl rfl⟩
theorem Rt.trans (h : Rt W RW A c bs w w') (k : Rt W (ob A bs c) A2 c2 bs2 w' w2) : Rt W RW A2 c2 bs2 w w2 :=
 ⟨k.own, h.chg.trans (k.chg.any (Nat.le_refl _)) h.row, by
  rcases k.row with e | ⟨r, e, hr⟩
  ·rcases h.row with e1 | ⟨r, e1, hr⟩
   ·exact .inl (e.trans e1)
   ·exact .inr ⟨r, e.trans e1, hr⟩
  ·exact .inr ⟨r, e, Nat.le_trans h.chg.size hr⟩⟩
theorem Rt.below (h : Rt W RW A c bs w w') (hb : Below w'.heap.size w' w2) : Rt W RW A c bs w w2 :=
 ⟨own_below h.own hb, h.chg.trans (Chg.of_below hb) h.row, h.row⟩
theorem Rt.of_app (h : w.ownsRow W 5 1 (.slice A (bs).length c) (bs).length (by8 (bs))) (hg : w.grownBy w' (Value.slice A bs.length c).ownBlock) (h2 : w'.ownsRow W 5 1 (.slice A2 (bs2).length c2) (bs2).length (by8 (bs2))) (hv : (Value.slice A2 bs2.length c2).ownBlock = (Value.slice A bs.length c).ownBlock ∨ (Value.slice A2 bs2.length c2).ownBlock = some w.heap.size) : Rt W (ob A bs c) A2 c2 bs2 w w' :=
 ⟨h2, Chg.of_grown hg, hv.imp id fun e => ⟨_, e, Nat.le_refl _⟩⟩
theorem own_keep34 (h : w.ownsRow W 5 1 (.slice A (bs).length c) (bs).length (by8 (bs))) (hC : Chg w.heap.size (ob A bs c) w w') {k : Nat} {o : Obj} (hk : w.heap[k]? = some o) (hne : ∀ cs t f, o = .cells cs t f → t ≠ 5) : w'.heap[k]? = some o := by
 have hlt := (Array.getElem?_eq_some_iff.1 hk).1
 rw [hC.block k hlt (by omega)]
 ·exact hk
 ·intro e
  rcases h.2 with hn | ⟨g1, cap, cur, hv, hb, hg1, _⟩
  ·unfold ob at e;rw [hn.1] at e;simp [Value.ownBlock] at e
  ·unfold ob at e;rw [hv] at e;simp only [Value.ownBlock] at e;injection e with e;subst e;rw [hg1] at hk;injection hk with hk;exact hne _ _ _ hk.symm rfl
theorem own_old34 (h : w.ownsRow W 5 1 (.slice A (bs).length c) (bs).length (by8 (bs))) (hW : W ≤ w.heap.size) (hC : Chg w.heap.size (ob A bs c) w w') : Below W w w' :=
 hC.below hW hW fun b e => (h.lt b e).1
end
theorem rnumsW (W : Nat) (A : Option Addr) (c : Nat) (bs : List Nat) (A0 : Option Addr) (cap : Nat) (l : List Int) (w : World) (own : w.ownsRow W 5 1 (.slice A (bs).length c) (bs).length (by8 (bs))) (hW : W ≤ w.heap.size) (hl : l.length ≤ 100) (hbl : bs.length + 10 * l.length ≤ 1000000) (h6 : ∀ x ∈ l, In64p x) (hs : Sl w A0 (ints .i64 l))
  (hf : ∀ b o, A0 = some ⟨b, o, none⟩ → l ≠ [] → ob A bs c ≠ some b) :
  Calls Tryz.prog 86 #[.slice A bs.length c, .slice A0 l.length cap] w fun e w' => ∃ A' c', e = .returned (.slice A' (bs ++ packL l).length c') ∧ Rt W (ob A bs c) A' c' (bs ++ packL l) w w' := by
 have H6 := hJz h6;have HW0 := hJz (Rt.refl own)
 have HEL : Hid (∀ V, Chg w.heap.size (ob A bs c) w V → ∀ k, (hk : k < l.length) → ∃ b o, A0 = some ⟨b, o, none⟩ ∧ V.cell? ⟨b, o + k, none⟩ = some (.int .i64 l[k])) := hJz fun V hC k hk => by
  obtain ⟨b, o, hA0, hc0⟩ := hs.int hk;have hbr := hf b o hA0 (fun e => by subst e; simp at hk);have hblt : b < w.heap.size := World.block_lt_of_cell? _ _ hc0;refine ⟨b, o, hA0, ?_⟩;rw [World.cell?_of_block (a := ⟨b, o + k, none⟩) (hC.block b hblt (by omega) (fun e => hbr e.symm))];exact hc0
 have HPL : Hid (∀ k, k ≤ l.length → (packL (l.take k)).length ≤ 10 * k) := hJz fun k hk => by
  have := packL_le (l := l.take k) (fun x hx => h6 x (List.mem_of_mem_take hx));rw [List.length_take] at this;omega
 clear hs hf h6 own;go_enter Tryz.func86, Tryz.ntmps86;go_wp2_with fail;go_loopw [0, 5] (fun bv i wr => ∃ (k : Nat) (A2 : Option Addr) (c2 : Nat), k ≤ l.length ∧ i = .int .i64 k ∧ bv = .slice A2 (bs ++ packL (l.take k)).length c2 ∧ Rt W (ob A bs c) A2 c2 (bs ++ packL (l.take k)) w wr) (fun _ i _ => l.length - (intOf i).toNat)
 case atStart => exact ⟨0, A, c, by omega, rfl, by simp [packL], by simpa [packL] using HW0.out⟩
 case round =>
  obtain ⟨k, A2, c2, hk, rfl, rfl, hW2⟩ := hrel
  by_cases hlk : k < l.length
  ·have hlk1 : (k : Int) < (l.length : Int) := by omega
   have hk0 : (0 : Int) ≤ (k : Int) := by omega
   obtain ⟨b, o, hA0, hce⟩ := HEL.out wr hW2.chg k hlk;have hT : packL (l.take (k + 1)) = packL (l.take k) ++ packI l[k] := by rw [List.take_succ_eq_append_getElem hlk, packL_append]; simp [packL]
   have hpk := HPL.out k hk;obtain ⟨n, hn⟩ : ∃ n, l[k] = n := ⟨_, rfl⟩;have hn6 : In64p n := by rw [← hn]; exact H6.out _ (List.getElem_mem hlk)
   rw [hn] at hce hT;have hB2 : (bs ++ packL (l.take k)).length ≤ 1000000 := by rw [List.length_append]; omega
   have hT2 : bs ++ packL (l.take (k + 1)) = (bs ++ packL (l.take k)) ++ packI n := by rw [hT, List.append_assoc]
   obtain ⟨B2, hB2e⟩ : ∃ B2, bs ++ packL (l.take k) = B2 := ⟨_, rfl⟩;rw [hB2e] at hW2 hB2 hT2 ⊢;have HI := hJz (rpint_any n hn6 wr);have hQ10 : (packI n).length ≤ 10 := vb_len10 (zz_lt hn6);obtain ⟨Q, hQ⟩ : ∃ Q, packI n = Q := ⟨_, rfl⟩;rw [hQ] at HI hQ10 hT2;have HT2 := hJz hT2;have HW2 := hJz hW2;have hszW : W ≤ wr.heap.size := Nat.le_trans hW hW2.chg.size;subst hA0;clear hT hn hn6 hpk hW2 hB2e hQ hT2;go_wp2_with fail;refine HI.out.mono ?_;rintro e w2 ⟨⟨A3, c3, rfl, own3⟩, hb2⟩;have hq := Sl.of_own own3;have hW3 := HW2.out.below hb2;have hszW2 : W ≤ w2.heap.size := Nat.le_trans hszW hb2.size;clear HI hb2 own3
   go_wp2_with (first
    | (at_builtin; refine wpList_app3 rfl (.tmp 12) (.tmp 17) rfl EU8 rfl rfl hW3.own (m := Q.length) (by rw [by8_length, Nat.mul_one]) hq (by8_one _) (by unfold maxLen; omega) (by omega) hszW2 ?_; intro A5 c5 w5 own5 hg5 hv5 hb5)
    | fail)
   have hR : Rt W (ob A bs c) A5 c5 (B2 ++ Q) w w5 := hW3.trans (Rt.of_app hW3.own hg5 (by rw [List.length_append, by8_append]; exact own5) (by rw [List.length_append]; exact hv5));rw [← HT2.out] at hR;go_roundw
   case rel => exact ⟨k + 1, A5, c5, by omega, by go_num, by rw [HT2.out, List.length_append], hR⟩
   case measure => simp [intOf]; omega
  ·obtain rfl : k = l.length := by omega
   rw [List.take_length] at hW2 ⊢;go_wp2_with fail;go_ret;exact ⟨A2, c2, rfl, hW2⟩
theorem CB.keepR {w w' w1 : World} {b W c : Nat} {z : List Int} {v : Value} {A : Option Addr} {bs : List Nat} (h : CB w b z v) (own : w1.ownsRow W 5 1 (.slice A (bs).length c) (bs).length (by8 (bs))) (hC : Chg w1.heap.size (ob A bs c) w1 w') (hb : Below w.heap.size w w1) : CB w' b z v :=
 ⟨own_keep34 own hC (h.below hb).blk (fun cs t f e => by injection e with _ e2 _; subst e2; decide), h.len⟩
theorem fldL_mem (op : Int) : ∀ x ∈ fldL op, x = 77 ∨ x = 85 ∨ x = 79 ∨ x = 73 ∨ x = 65 ∨ x = 84 ∨ x = 68 ∨ x = 81 ∨ x = 80 ∨ x = 78 := by
 have h := fldL_cases op
 rcases h with h | h | h | h | h | h | h | h | h | h | h | h | h | h | h <;> rw [h] <;> decide
theorem rencode34E (z0 z1 z2 z3 z4 z5 z6 z7 z8 z9 z10 z11 z12 : Int) (A : Option Addr) (cap : Nat) (nums : List Int) (w : World) (hn : nums.length ≤ 1000) (h6z : ∀ i, In64p (([z0, z1, z2, z3, z4, z5, z6, z7, z8, z9, z10, z11, z12] : List Int).getD i 0)) (h6 : ∀ x ∈ nums, In64p x) (hs : Sl w A (ints .i64 nums)) :
  Calls Tryz.prog 52 #[.agg #[.int .i64 z0, .int .i64 z1, .int .i64 z2, .int .i64 z3, .int .i64 z4, .int .i64 z5, .int .i64 z6, .int .i64 z7, .int .i64 z8, .int .i64 z9, .int .i64 z10, .int .i64 z11, .int .i64 z12, .slice A nums.length cap]] w fun e w' => ERes34 w.heap.size w' e (isZ [z0, z1, z2, z3, z4, z5, z6, z7, z8, z9, z10, z11, z12] nums.length) (packL (encC [z0, z1, z2, z3, z4, z5, z6, z7, z8, z9, z10, z11, z12] nums)) ∧ Below w.heap.size w w' := by
 have hCB0 : CB (w.alloc (.cells #[.int .i64 z0, .int .i64 z1, .int .i64 z2, .int .i64 z3, .int .i64 z4, .int .i64 z5, .int .i64 z6, .int .i64 z7, .int .i64 z8, .int .i64 z9, .int .i64 z10, .int .i64 z11, .int .i64 z12, .slice A nums.length cap] 26)) w.heap.size [z0, z1, z2, z3, z4, z5, z6, z7, z8, z9, z10, z11, z12] (.slice A nums.length cap) := ⟨heap_alloc_new w _, rfl⟩;have hB0 : Below w.heap.size w (w.alloc (.cells #[.int .i64 z0, .int .i64 z1, .int .i64 z2, .int .i64 z3, .int .i64 z4, .int .i64 z5, .int .i64 z6, .int .i64 z7, .int .i64 z8, .int .i64 z9, .int .i64 z10, .int .i64 z11, .int .i64 z12, .slice A nums.length cap] 26)) := since_alloc (Below.refl _ w) _;have HCK := hJz (ris34E z0 z1 z2 z3 z4 z5 z6 z7 z8 z9 z10 z11 z12 A nums.length cap (w.alloc (.cells #[.int .i64 z0, .int .i64 z1, .int .i64 z2, .int .i64 z3, .int .i64 z4, .int .i64 z5, .int .i64 z6, .int .i64 z7, .int .i64 z8, .int .i64 z9, .int .i64 z10, .int .i64 z11, .int .i64 z12, .slice A nums.length cap] 26)) (by unfold maxLen; omega));obtain ⟨b, hb⟩ : ∃ b, w.heap.size = b := ⟨_, rfl⟩;have HBW := hJz hb;have HSN : Hid (∀ V, Below b w V → Sl V A (ints .i64 nums)) := hJz fun V hV => hs.below (by rw [hb]; exact hV);rw [hb] at hCB0 hB0 ⊢;clear hb hs;have hlt0 := hCB0.lt;have HCB0 := hJz hCB0;have HB0 := hJz hB0;clear hCB0 hB0;unfold ERes34;by_cases hok : isZ [z0, z1, z2, z3, z4, z5, z6, z7, z8, z9, z10, z11, z12] nums.length = true
 case neg =>
  have hok : isZ [z0, z1, z2, z3, z4, z5, z6, z7, z8, z9, z10, z11, z12] nums.length = false := by simpa using hok
  simp only [hok, Bool.false_eq_true, if_false];rw [hok] at HCK;clear hok;go_enter Tryz.func52, Tryz.ntmps52;go_wp2_with fail;refine HCK.out.mono ?_;rintro e v1 ⟨rfl, hb1⟩;have hB1 := HB0.out.trans (hb1.mono (Nat.le_of_lt hlt0));go_wp2_with fail;go_ret2;exact ⟨rfl, hB1⟩
 simp only [hok, if_true];rw [hok] at HCK
 have hn32 : nums.length ≤ 32 := by
  rw [← ok_isE] at hok;simp only [okZ, Bool.and_eq_true, decide_eq_true_eq] at hok;exact hok.1.1.1.2.2.2.2
 have h60 : In64p z0 := h6z 0;have h61 : In64p z1 := h6z 1;obtain ⟨Z, hZ⟩ : ∃ Z, Z = ([z0, z1, z2, z3, z4, z5, z6, z7, z8, z9, z10, z11, z12] : List Int) := ⟨_, rfl⟩;have hZ0 : Z.getD 0 0 = z0 := by rw [hZ]; rfl
 have hZ1 : Z.getD 1 0 = z1 := by rw [hZ]; rfl
 obtain ⟨v, hv⟩ : ∃ v, v = Value.slice A nums.length cap := ⟨_, rfl⟩;have HV0 := hJz hv;have HZ6 : Hid (∀ i, In64p (([z0, z1, z2, z3, z4, z5, z6, z7, z8, z9, z10, z11, z12] : List Int).getD i 0)) := hJz h6z;rw [← hZ] at HCB0 h6z ⊢;have HZe := hJz hZ;have H6 := hJz h6;have HENC : Hid (encC Z nums = z0 :: z1 :: (fldL z0).flatMap (encV Z nums)) := hJz (by unfold encC; rw [hZ0, hZ1]);have HF := hJz (fun V => rfld_any z0 V);have HMEM := hJz (fldL_mem z0)
 have HAT : Hid (∀ k, (h : k < (bs8 (fldL z0)).size) → ∃ h2 : k < (fldL z0).length, ((bs8 (fldL z0))[k]'h).toNat = (fldL z0)[k]) := hJz fun k h => by
  have h2 : k < (fldL z0).length := by rw [bs8_size] at h; exact h
  exact ⟨h2, bs8_at h2 (by have := fldL_low z0 _ (List.getElem_mem h2); omega)⟩
 have hL5 := fldL_five z0
 have HLEN : Hid (∀ k, (packL (z0 :: z1 :: ((fldL z0).take k).flatMap (encV Z nums))).length ≤ 5000) := hJz fun k => by
  have h1 := packL_le (l := z0 :: z1 :: ((fldL z0).take k).flatMap (encV Z nums)) (fun x hx => by
   rcases List.mem_cons.1 hx with rfl | hx
   ·exact h60
   ·rcases List.mem_cons.1 hx with rfl | hx
    ·exact h61
    ·exact flat_in h6z h6 hn _ x hx)
  have h2 := flat_len Z nums ((fldL z0).take k);have h3 : ((fldL z0).take k).length ≤ 5 := by rw [List.length_take]; omega
  have h4 : (nums.length + 2) * ((fldL z0).take k).length ≤ 34 * 5 := Nat.mul_le_mul (by omega) h3;rw [List.length_cons, List.length_cons] at h1;omega
 clear hok hZ hZ0 hZ1 hv h6z h6 hn;go_enter Tryz.func52, Tryz.ntmps52;go_wp2_with fail;refine HCK.out.mono ?_;rintro e v1 ⟨rfl, hb1⟩;have hCB1 := HCB0.out.below hb1;rw [← HV0.out] at hCB1;have hB1 := HB0.out.trans (hb1.mono (Nat.le_of_lt hlt0));clear hb1 HCK;rw [HBW.out];generalize w.alloc (.cells #[.int .i64 z0, .int .i64 z1, .int .i64 z2, .int .i64 z3, .int .i64 z4, .int .i64 z5, .int .i64 z6, .int .i64 z7, .int .i64 z8, .int .i64 z9, .int .i64 z10, .int .i64 z11, .int .i64 z12, .slice A nums.length cap] 26) = W1 at *;clear HCB0 HB0 hlt0;have hlt1 := hCB1.lt;have hal := since_alloc (Below.refl _ v1) (.cells #[.int .i64 z0, .int .i64 z1] 3)
 have HNU := hJz (rnumsW b none 0 [] (some ⟨v1.heap.size, 0, none⟩) 2 [z0, z1] (v1.alloc (.cells #[.int .i64 z0, .int .i64 z1] 3)) (own_nil _ _ _) (Nat.le_trans (Nat.le_of_lt hlt1) hal.size) (by simp) (by simp) (fun x hx => by
  rcases List.mem_cons.1 hx with rfl | hx
  ·exact h60
  ·rw [List.mem_singleton.1 hx]; exact h61) (Sl.new_ _ _ _) (fun b o e _ e2 => by cases e2))
 have HCB2 := hJz (hCB1.below hal);have HB2 := hJz (hB1.trans (hal.mono (Nat.le_of_lt hlt1)));obtain ⟨c0, f0⟩ := hCB1.got (o := 0) (by decide);obtain ⟨c1, f1⟩ := hCB1.got (o := 1) (by decide);rw [show Z.getD 0 0 = z0 by rw [HZe.out]; rfl] at c0;rw [show Z.getD 1 0 = z1 by rw [HZe.out]; rfl] at c1;have hsz2 : b ≤ (v1.alloc (.cells #[.int .i64 z0, .int .i64 z1] 3)).heap.size := Nat.le_trans (Nat.le_of_lt hlt1) hal.size;clear hCB1 hB1 hal h60 h61;go_wp2_with fail;refine HNU.out.mono ?_;rintro e v2 ⟨A2, c2, rfl, hW2⟩;rw [List.nil_append] at hW2 ⊢;have hCB3 : CB v2 b Z v := ⟨own_keep34 (own_nil b _ _) hW2.chg HCB2.out.blk (fun cs t f e => by injection e with _ e2 _; subst e2; decide), HCB2.out.len⟩;have hB3 := HB2.out.trans (own_old34 (own_nil b _ _) hsz2 hW2.chg);have hO3 := hW2.own;clear c0 f0 c1 f1 HNU HCB2 HB2 hW2 hsz2 hlt1;obtain ⟨c0, f0⟩ := hCB3.got (o := 0) (by decide);rw [show Z.getD 0 0 = z0 by rw [HZe.out]; rfl] at c0;have hlt3 := hCB3.lt;go_wp2_with fail;refine (HF.out _).mono ?_;rintro e v4 ⟨rfl, hb4⟩;obtain ⟨L, hL⟩ : ∃ L, fldL z0 = L := ⟨_, rfl⟩;rw [hL] at HMEM HENC HLEN HAT hL5 ⊢;have hsz := bs8_size L;obtain ⟨s, hs⟩ : ∃ s, bs8 L = s := ⟨_, rfl⟩;rw [hs] at HAT hsz ⊢;have hCB5 := hCB3.below hb4;have hB5 := hB3.trans (hb4.mono (Nat.le_of_lt hlt3));have hO5 := own_below hO3 hb4;have HSZ := hJz hsz;have hs5 : s.size ≤ 5 := by omega
 clear hb4 HF hL hs hsz c0 f0 hCB3 hB3 hO3 hlt3;have HKEEP : Hid (∀ V, Chg v4.heap.size (ob A2 (packL [z0, z1]) c2) v4 V → CB V b Z v) := hJz fun V hC => ⟨own_keep34 hO5 hC hCB5.blk (fun cs t f e => by injection e with _ e2 _; subst e2; decide), hCB5.len⟩;have HOLD : Hid (∀ V, Chg v4.heap.size (ob A2 (packL [z0, z1]) c2) v4 V → Below b w V) := hJz fun V hC => hB5.trans (own_old34 hO5 (Nat.le_of_lt hCB5.lt) hC);obtain ⟨R0, hR0⟩ : ∃ R0, ob A2 (packL [z0, z1]) c2 = R0 := ⟨_, rfl⟩;have hO6 := Rt.refl hO5;rw [hR0] at HKEEP HOLD hO6;have HO5 := hJz hO6;clear hCB5 hB5 hO5 hO6 hR0;go_wp2_with fail;go_loopw [4, 6] (fun bv iv wr => ∃ (k : Nat) (A3 : Option Addr) (c3 : Nat), k ≤ s.size ∧ iv = .int .i64 (k : Int) ∧ bv = .slice A3 (packL (z0 :: z1 :: (L.take k).flatMap (encV Z nums))).length c3 ∧ Rt b R0 A3 c3 (packL (z0 :: z1 :: (L.take k).flatMap (encV Z nums))) v4 wr) (fun _ iv _ => s.size - (intOf iv).toNat)
 case atStart => exact ⟨0, A2, c2, by omega, rfl, rfl, HO5.out⟩
 case round =>
  obtain ⟨k, A2, c2, hk, rfl, rfl, hW2⟩ := hrel;clear HO5
  by_cases hkl : k < s.size
  ·have hk1 : (k : Int) < (s.size : Int) := by omega
   have hk0 : (0 : Int) ≤ (k : Int) := by omega
   obtain ⟨h2, hat⟩ := HAT.out k hkl;have hC := HKEEP.out _ hW2.chg;have hbl := hC.lt;obtain ⟨f, hf⟩ : ∃ f, L[k] = f := ⟨_, rfl⟩
   have hT1 : packL (z0 :: z1 :: (L.take (k + 1)).flatMap (encV Z nums)) = packL (z0 :: z1 :: (L.take k).flatMap (encV Z nums)) ++ packL (encV Z nums f) := by
    rw [take_snoc L k h2, hf, ← packL_append];simp
   have hBL := HLEN.out k;obtain ⟨B2, hB2e⟩ : ∃ B2, packL (z0 :: z1 :: (L.take k).flatMap (encV Z nums)) = B2 := ⟨_, rfl⟩;rw [hB2e] at hT1 hW2 hBL ⊢;have hmem := HMEM.out _ (List.getElem_mem h2);rw [hf] at hat hmem;clear hf hB2e;obtain ⟨cc0, fc0⟩ := hC.got (o := 0) (by decide);obtain ⟨cc1, fc1⟩ := hC.got (o := 1) (by decide);obtain ⟨cc2, fc2⟩ := hC.got (o := 2) (by decide);obtain ⟨cc3, fc3⟩ := hC.got (o := 3) (by decide);obtain ⟨cc4, fc4⟩ := hC.got (o := 4) (by decide);obtain ⟨cc5, fc5⟩ := hC.got (o := 5) (by decide);obtain ⟨cc6, fc6⟩ := hC.got (o := 6) (by decide);obtain ⟨cc7, fc7⟩ := hC.got (o := 7) (by decide);obtain ⟨cc8, fc8⟩ := hC.got (o := 8) (by decide);obtain ⟨cc9, fc9⟩ := hC.got (o := 9) (by decide);obtain ⟨cc10, fc10⟩ := hC.got (o := 10) (by decide);obtain ⟨cc11, fc11⟩ := hC.got (o := 11) (by decide);obtain ⟨cc12, fc12⟩ := hC.got (o := 12) (by decide);obtain ⟨cv, fv⟩ := hC.gotV;rw [HV0.out] at cv;simp only [HZe.out, List.getD_cons_zero, List.getD_cons_succ] at cc0 cc1 cc2 cc3 cc4 cc5 cc6 cc7 cc8 cc9 cc10 cc11 cc12;clear fc0 fc1 fc2 fc3 fc4 fc5 fc6 fc7 fc8 fc9 fc10 fc11 fc12 fv h2
   rcases hmem with rfl | rfl | rfl | rfl | rfl | rfl | rfl | rfl | rfl | rfl
   ·have hv : ((s[k].toNat : Nat) : Int) = 77 := by rw [hat]; rfl
    have hE : encV Z nums 77 = [z2] := by rw [HZe.out]; rfl
    have hal := since_alloc (Below.refl _ wr) (.cells #[.int .i64 z2] 3)
    have HNU := hJz (rnumsW b A2 c2 B2 (some ⟨wr.heap.size, 0, none⟩) 1 [z2] (wr.alloc (.cells #[.int .i64 z2] 3)) (own_below hW2.own hal) (Nat.le_trans (Nat.le_of_lt hbl) hal.size) (by simp) (by simp; omega) (fun x hx => by
     simp only [List.mem_cons, List.not_mem_nil, or_false] at hx
     subst hx; first | exact HZ6.out 2) (Sl.new_ _ _ _) (fun b3 o3 e _ e2 => by
     injection e with e;injection e with e _;subst e
     exact own_newB hW2.own (Nat.le_refl _) e2))
    have HW2 := hJz (hW2.below hal);have HT2 := hJz (hT1.trans (by rw [hE]));clear hE hat hal hW2 hT1 hC;go_wp2_with fail;refine HNU.out.mono ?_;rintro e w2 ⟨A5, c5, rfl, hW5⟩;have hR := HW2.out.trans hW5;rw [← HT2.out] at hR;clear hv HNU hW5;go_wp2_with fail;go_roundw
    case rel => exact ⟨k + 1, A5, c5, by omega, by go_num, by rw [HT2.out, List.length_append], hR⟩
    case measure => simp [intOf]; omega
   ·have hv : ((s[k].toNat : Nat) : Int) = 85 := by rw [hat]; rfl
    have hE : encV Z nums 85 = [z3, z4] := by rw [HZe.out]; rfl
    have hal := since_alloc (Below.refl _ wr) (.cells #[.int .i64 z3, .int .i64 z4] 3)
    have HNU := hJz (rnumsW b A2 c2 B2 (some ⟨wr.heap.size, 0, none⟩) 2 [z3, z4] (wr.alloc (.cells #[.int .i64 z3, .int .i64 z4] 3)) (own_below hW2.own hal) (Nat.le_trans (Nat.le_of_lt hbl) hal.size) (by simp) (by simp; omega) (fun x hx => by
     simp only [List.mem_cons, List.not_mem_nil, or_false] at hx
     rcases hx with rfl | rfl <;> first | exact HZ6.out 3 | exact HZ6.out 4) (Sl.new_ _ _ _) (fun b3 o3 e _ e2 => by
     injection e with e;injection e with e _;subst e
     exact own_newB hW2.own (Nat.le_refl _) e2))
    have HW2 := hJz (hW2.below hal);have HT2 := hJz (hT1.trans (by rw [hE]));clear hE hat hal hW2 hT1 hC;go_wp2_with fail;refine HNU.out.mono ?_;rintro e w2 ⟨A5, c5, rfl, hW5⟩;have hR := HW2.out.trans hW5;rw [← HT2.out] at hR;clear hv HNU hW5;go_wp2_with fail;go_roundw
    case rel => exact ⟨k + 1, A5, c5, by omega, by go_num, by rw [HT2.out, List.length_append], hR⟩
    case measure => simp [intOf]; omega
   ·have hv : ((s[k].toNat : Nat) : Int) = 79 := by rw [hat]; rfl
    have hE : encV Z nums 79 = [z5, z6] := by rw [HZe.out]; rfl
    have hal := since_alloc (Below.refl _ wr) (.cells #[.int .i64 z5, .int .i64 z6] 3)
    have HNU := hJz (rnumsW b A2 c2 B2 (some ⟨wr.heap.size, 0, none⟩) 2 [z5, z6] (wr.alloc (.cells #[.int .i64 z5, .int .i64 z6] 3)) (own_below hW2.own hal) (Nat.le_trans (Nat.le_of_lt hbl) hal.size) (by simp) (by simp; omega) (fun x hx => by
     simp only [List.mem_cons, List.not_mem_nil, or_false] at hx
     rcases hx with rfl | rfl <;> first | exact HZ6.out 5 | exact HZ6.out 6) (Sl.new_ _ _ _) (fun b3 o3 e _ e2 => by
     injection e with e;injection e with e _;subst e
     exact own_newB hW2.own (Nat.le_refl _) e2))
    have HW2 := hJz (hW2.below hal);have HT2 := hJz (hT1.trans (by rw [hE]));clear hE hat hal hW2 hT1 hC;go_wp2_with fail;refine HNU.out.mono ?_;rintro e w2 ⟨A5, c5, rfl, hW5⟩;have hR := HW2.out.trans hW5;rw [← HT2.out] at hR;clear hv HNU hW5;go_wp2_with fail;go_roundw
    case rel => exact ⟨k + 1, A5, c5, by omega, by go_num, by rw [HT2.out, List.length_append], hR⟩
    case measure => simp [intOf]; omega
   ·have hv : ((s[k].toNat : Nat) : Int) = 73 := by rw [hat]; rfl
    have hE : encV Z nums 73 = [z7] := by rw [HZe.out]; rfl
    have hal := since_alloc (Below.refl _ wr) (.cells #[.int .i64 z7] 3)
    have HNU := hJz (rnumsW b A2 c2 B2 (some ⟨wr.heap.size, 0, none⟩) 1 [z7] (wr.alloc (.cells #[.int .i64 z7] 3)) (own_below hW2.own hal) (Nat.le_trans (Nat.le_of_lt hbl) hal.size) (by simp) (by simp; omega) (fun x hx => by
     simp only [List.mem_cons, List.not_mem_nil, or_false] at hx
     subst hx; first | exact HZ6.out 7) (Sl.new_ _ _ _) (fun b3 o3 e _ e2 => by
     injection e with e;injection e with e _;subst e
     exact own_newB hW2.own (Nat.le_refl _) e2))
    have HW2 := hJz (hW2.below hal);have HT2 := hJz (hT1.trans (by rw [hE]));clear hE hat hal hW2 hT1 hC;go_wp2_with fail;refine HNU.out.mono ?_;rintro e w2 ⟨A5, c5, rfl, hW5⟩;have hR := HW2.out.trans hW5;rw [← HT2.out] at hR;clear hv HNU hW5;go_wp2_with fail;go_roundw
    case rel => exact ⟨k + 1, A5, c5, by omega, by go_num, by rw [HT2.out, List.length_append], hR⟩
    case measure => simp [intOf]; omega
   ·have hv : ((s[k].toNat : Nat) : Int) = 65 := by rw [hat]; rfl
    have hE : encV Z nums 65 = [z8] := by rw [HZe.out]; rfl
    have hal := since_alloc (Below.refl _ wr) (.cells #[.int .i64 z8] 3)
    have HNU := hJz (rnumsW b A2 c2 B2 (some ⟨wr.heap.size, 0, none⟩) 1 [z8] (wr.alloc (.cells #[.int .i64 z8] 3)) (own_below hW2.own hal) (Nat.le_trans (Nat.le_of_lt hbl) hal.size) (by simp) (by simp; omega) (fun x hx => by
     simp only [List.mem_cons, List.not_mem_nil, or_false] at hx
     subst hx; first | exact HZ6.out 8) (Sl.new_ _ _ _) (fun b3 o3 e _ e2 => by
     injection e with e;injection e with e _;subst e
     exact own_newB hW2.own (Nat.le_refl _) e2))
    have HW2 := hJz (hW2.below hal);have HT2 := hJz (hT1.trans (by rw [hE]));clear hE hat hal hW2 hT1 hC;go_wp2_with fail;refine HNU.out.mono ?_;rintro e w2 ⟨A5, c5, rfl, hW5⟩;have hR := HW2.out.trans hW5;rw [← HT2.out] at hR;clear hv HNU hW5;go_wp2_with fail;go_roundw
    case rel => exact ⟨k + 1, A5, c5, by omega, by go_num, by rw [HT2.out, List.length_append], hR⟩
    case measure => simp [intOf]; omega
   ·have hv : ((s[k].toNat : Nat) : Int) = 84 := by rw [hat]; rfl
    have hE : encV Z nums 84 = [z9] := by rw [HZe.out]; rfl
    have hal := since_alloc (Below.refl _ wr) (.cells #[.int .i64 z9] 3)
    have HNU := hJz (rnumsW b A2 c2 B2 (some ⟨wr.heap.size, 0, none⟩) 1 [z9] (wr.alloc (.cells #[.int .i64 z9] 3)) (own_below hW2.own hal) (Nat.le_trans (Nat.le_of_lt hbl) hal.size) (by simp) (by simp; omega) (fun x hx => by
     simp only [List.mem_cons, List.not_mem_nil, or_false] at hx
     subst hx; first | exact HZ6.out 9) (Sl.new_ _ _ _) (fun b3 o3 e _ e2 => by
     injection e with e;injection e with e _;subst e
     exact own_newB hW2.own (Nat.le_refl _) e2))
    have HW2 := hJz (hW2.below hal);have HT2 := hJz (hT1.trans (by rw [hE]));clear hE hat hal hW2 hT1 hC;go_wp2_with fail;refine HNU.out.mono ?_;rintro e w2 ⟨A5, c5, rfl, hW5⟩;have hR := HW2.out.trans hW5;rw [← HT2.out] at hR;clear hv HNU hW5;go_wp2_with fail;go_roundw
    case rel => exact ⟨k + 1, A5, c5, by omega, by go_num, by rw [HT2.out, List.length_append], hR⟩
    case measure => simp [intOf]; omega
   ·have hv : ((s[k].toNat : Nat) : Int) = 68 := by rw [hat]; rfl
    have hE : encV Z nums 68 = [z10] := by rw [HZe.out]; rfl
    have hal := since_alloc (Below.refl _ wr) (.cells #[.int .i64 z10] 3)
    have HNU := hJz (rnumsW b A2 c2 B2 (some ⟨wr.heap.size, 0, none⟩) 1 [z10] (wr.alloc (.cells #[.int .i64 z10] 3)) (own_below hW2.own hal) (Nat.le_trans (Nat.le_of_lt hbl) hal.size) (by simp) (by simp; omega) (fun x hx => by
     simp only [List.mem_cons, List.not_mem_nil, or_false] at hx
     subst hx; first | exact HZ6.out 10) (Sl.new_ _ _ _) (fun b3 o3 e _ e2 => by
     injection e with e;injection e with e _;subst e
     exact own_newB hW2.own (Nat.le_refl _) e2))
    have HW2 := hJz (hW2.below hal);have HT2 := hJz (hT1.trans (by rw [hE]));clear hE hat hal hW2 hT1 hC;go_wp2_with fail;refine HNU.out.mono ?_;rintro e w2 ⟨A5, c5, rfl, hW5⟩;have hR := HW2.out.trans hW5;rw [← HT2.out] at hR;clear hv HNU hW5;go_wp2_with fail;go_roundw
    case rel => exact ⟨k + 1, A5, c5, by omega, by go_num, by rw [HT2.out, List.length_append], hR⟩
    case measure => simp [intOf]; omega
   ·have hv : ((s[k].toNat : Nat) : Int) = 81 := by rw [hat]; rfl
    have hE : encV Z nums 81 = [z11] := by rw [HZe.out]; rfl
    have hn6 : In64p z11 := HZ6.out 11;have HI := hJz (rpint_any z11 hn6 wr);have hQ10 : (packI z11).length ≤ 10 := vb_len10 (zz_lt hn6);have hT3 := hT1.trans (by rw [hE, show packL [z11] = packI z11 by simp [packL]]);obtain ⟨Q, hQ⟩ : ∃ Q, packI z11 = Q := ⟨_, rfl⟩;rw [hQ] at HI hQ10 hT3;have HT2 := hJz hT3;have HW2 := hJz hW2;have hszW : b ≤ wr.heap.size := Nat.le_of_lt hbl;clear hE hat hW2 hT1 hC hT3 hQ hn6;go_wp2_with fail;refine HI.out.mono ?_;rintro e w2 ⟨⟨A3, c3, rfl, own3⟩, hb2⟩;have hq := Sl.of_own own3;have hW3 := HW2.out.below hb2;have hszW2 : b ≤ w2.heap.size := Nat.le_trans hszW hb2.size;clear HI hb2 own3 hv
    go_wp2_with (first
     | (at_builtin; refine wpList_app3 rfl (.tmp 87) (.tmp 90) rfl EU8 rfl rfl hW3.own (m := Q.length) (by rw [by8_length, Nat.mul_one]) hq (by8_one _) (by unfold maxLen; omega) (by omega) hszW2 ?_; intro A5 c5 w5 own5 hg5 hv5 hb5)
     | fail)
    have hR := hW3.trans (Rt.of_app (bs2 := B2 ++ Q) hW3.own hg5 (by rw [List.length_append, by8_append]; exact own5) (by rw [List.length_append]; exact hv5));rw [← HT2.out] at hR;go_roundw
    case rel => exact ⟨k + 1, A5, c5, by omega, by go_num, by rw [HT2.out, List.length_append], hR⟩
    case measure => simp [intOf]; omega
   ·have hv : ((s[k].toNat : Nat) : Int) = 80 := by rw [hat]; rfl
    have hE : encV Z nums 80 = [z12] := by rw [HZe.out]; rfl
    have hn6 : In64p z12 := HZ6.out 12;have HI := hJz (rpint_any z12 hn6 wr);have hQ10 : (packI z12).length ≤ 10 := vb_len10 (zz_lt hn6);have hT3 := hT1.trans (by rw [hE, show packL [z12] = packI z12 by simp [packL]]);obtain ⟨Q, hQ⟩ : ∃ Q, packI z12 = Q := ⟨_, rfl⟩;rw [hQ] at HI hQ10 hT3;have HT2 := hJz hT3;have HW2 := hJz hW2;have hszW : b ≤ wr.heap.size := Nat.le_of_lt hbl;clear hE hat hW2 hT1 hC hT3 hQ hn6;go_wp2_with fail;refine HI.out.mono ?_;rintro e w2 ⟨⟨A3, c3, rfl, own3⟩, hb2⟩;have hq := Sl.of_own own3;have hW3 := HW2.out.below hb2;have hszW2 : b ≤ w2.heap.size := Nat.le_trans hszW hb2.size;clear HI hb2 own3 hv
    go_wp2_with (first
     | (at_builtin; refine wpList_app3 rfl (.tmp 94) (.tmp 97) rfl EU8 rfl rfl hW3.own (m := Q.length) (by rw [by8_length, Nat.mul_one]) hq (by8_one _) (by unfold maxLen; omega) (by omega) hszW2 ?_; intro A5 c5 w5 own5 hg5 hv5 hb5)
     | fail)
    have hR := hW3.trans (Rt.of_app (bs2 := B2 ++ Q) hW3.own hg5 (by rw [List.length_append, by8_append]; exact own5) (by rw [List.length_append]; exact hv5));rw [← HT2.out] at hR;go_roundw
    case rel => exact ⟨k + 1, A5, c5, by omega, by go_num, by rw [HT2.out, List.length_append], hR⟩
    case measure => simp [intOf]; omega
   ·have hv : ((s[k].toNat : Nat) : Int) = 78 := by rw [hat]; rfl
    have hE : encV Z nums 78 = (nums.length : Int) :: nums := rfl;have hal := since_alloc (Below.refl _ wr) (.cells #[.int .i64 (nums.length : Int)] 3)
    have HNU := hJz (rnumsW b A2 c2 B2 (some ⟨wr.heap.size, 0, none⟩) 1 [(nums.length : Int)] (wr.alloc (.cells #[.int .i64 (nums.length : Int)] 3)) (own_below hW2.own hal) (Nat.le_trans (Nat.le_of_lt hbl) hal.size) (by simp) (by simp; omega) (fun x hx => by
     rw [List.mem_singleton.1 hx]
     unfold In64p; omega) (Sl.new_ _ _ _) (fun b3 o3 e _ e2 => by
     injection e with e;injection e with e _;subst e
     exact own_newB hW2.own (Nat.le_refl _) e2))
    have HW2 := hJz (hW2.below hal);have HC1 : Hid (∀ A5 c5 V, Rt b (ob A2 B2 c2) A5 c5 (B2 ++ packL [(nums.length : Int)]) (wr.alloc (.cells #[.int .i64 (nums.length : Int)] 3)) V → CB V b Z v) := hJz fun A5 c5 V h => hC.keepR (own_below hW2.own hal) h.chg hal;have hT3 := hT1.trans (by rw [hE, packL_cons, show packI (nums.length : Int) = packL [(nums.length : Int)] by simp [packL], ← List.append_assoc]);have HT2 := hJz hT3
    have hl1 : (packL [(nums.length : Int)]).length ≤ 10 := by
     have := packL_le (l := [(nums.length : Int)]) (fun x hx => by rw [List.mem_singleton.1 hx]; unfold In64p; omega);simpa using this
    clear hE hat hal hW2 hT1 hC hT3;go_wp2_with fail;refine HNU.out.mono ?_;rintro e w2 ⟨A5, c5, rfl, hW5⟩;have hC5 := HC1.out _ _ _ hW5;have hW6 := HW2.out.trans hW5;have hB6 := HOLD.out _ hW6.chg;have hsn := HSN.out _ hB6;obtain ⟨B6, hB6e⟩ : ∃ B6, B2 ++ packL [(nums.length : Int)] = B6 := ⟨_, rfl⟩;have hB6l : B6.length ≤ 900010 := by rw [← hB6e, List.length_append]; omega
    rw [hB6e] at hW6 HT2 ⊢;have HI := hJz (rpints_any A cap nums w2 (by omega) H6.out hsn);have hQ10 : (packL nums).length ≤ 10 * nums.length := packL_le H6.out;obtain ⟨Q, hQ⟩ : ∃ Q, packL nums = Q := ⟨_, rfl⟩;rw [hQ] at HI hQ10 HT2;obtain ⟨cv5, fv5⟩ := hC5.gotV;rw [HV0.out] at cv5;have hlt5 := hC5.lt;have HW6 := hJz hW6;clear hQ hW6 hB6 hsn hB6e hW5 HNU HC1 hC5 hv;go_wp2_with fail;refine HI.out.mono ?_;rintro e w3 ⟨⟨A3, c3, rfl, own3⟩, hb3⟩;have hq := Sl.of_own own3;have hW3 := HW6.out.below hb3;have hszW2 : b ≤ w3.heap.size := Nat.le_trans (Nat.le_of_lt hlt5) hb3.size;clear HI hb3 own3
    go_wp2_with (first
     | (at_builtin; refine wpList_app3 rfl (.tmp 107) (.tmp 110) rfl EU8 rfl rfl hW3.own (m := Q.length) (by rw [by8_length, Nat.mul_one]) hq (by8_one _) (by unfold maxLen; omega) (by omega) hszW2 ?_; intro A7 c7 w7 own7 hg7 hv7 hb7)
     | fail)
    have hR := hW3.trans (Rt.of_app (bs2 := B6 ++ Q) hW3.own hg7 (by rw [List.length_append, by8_append]; exact own7) (by rw [List.length_append]; exact hv7));rw [← HT2.out] at hR;go_roundw
    case rel => exact ⟨k + 1, A7, c7, by omega, by go_num, by rw [HT2.out, List.length_append], hR⟩
    case measure => simp [intOf]; omega
  ·obtain rfl : k = s.size := by omega
   have hB := HOLD.out _ hW2.chg;have hle : L.take s.size = L := by rw [HSZ.out, List.take_length]
   rw [hle, ← HENC.out] at hW2;rw [hle, ← HENC.out];have HO := hJz hW2.own;clear hW2 hle;go_wp2_with fail;go_ret2;exact ⟨⟨A2, c2, rfl, HO.out⟩, hB⟩
end
end Go.Proofs.YtpmnjojednbnpaaGreatDoor
