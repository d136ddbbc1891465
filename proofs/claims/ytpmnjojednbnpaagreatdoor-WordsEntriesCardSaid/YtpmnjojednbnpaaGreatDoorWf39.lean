import Derived.Test.YtpmnjojednbnpaaGreatDoorWf11
set_option maxHeartbeats 16000000
set_option maxRecDepth 100000
set_option linter.unusedVariables false
set_option linter.unusedSimpArgs false
namespace Go.Proofs.YtpmnjojednbnpaaGreatDoor
open Go.ChangeShapes Go.WideShapes Go.ChangeAt Go.RowKit
section
theorem packL_le : ∀ {l : List Int}, (∀ x ∈ l, In64p x) → (packL l).length ≤ 10 * l.length
 | [], _ => by simp [packL]
 | n :: l, h => by
  rw [packL_cons, List.length_append, List.length_cons];have h1 := packL_le (l := l) fun x hx => h x (by simp [hx]);have h2 : (packI n).length ≤ 10 := vb_len10 (zz_lt (h n (by simp)));omega
theorem fldL_five (op : Int) : (fldL op).length ≤ 5 := by
 have h := fldL_cases op
 rcases h with h | h | h | h | h | h | h | h | h | h | h | h | h | h | h <;> rw [h] <;> decide
theorem encV_len (z nums : List Int) (f : Nat) : (encV z nums f).length ≤ nums.length + 2 := by
 unfold encV
 split
 ·simp
 ·rw [List.length_map];have := slotL_two f;omega
theorem encV_in {z nums : List Int} (hz : ∀ i, In64p (z.getD i 0)) (hn : ∀ x ∈ nums, In64p x) (hl : nums.length ≤ 1000) (f : Nat) : ∀ x ∈ encV z nums f, In64p x := by
 unfold encV
 split
 ·intro x hx
  rcases List.mem_cons.1 hx with rfl | hx
  ·unfold In64p; omega
  ·exact hn x hx
 ·intro x hx;obtain ⟨s, _, rfl⟩ := List.mem_map.1 hx;exact hz _
theorem flat_len (z nums : List Int) : ∀ l : List Nat, (l.flatMap (encV z nums)).length ≤ (nums.length + 2) * l.length
 | [] => by simp
 | f :: r => by
  rw [List.flatMap_cons, List.length_append, List.length_cons, Nat.mul_succ];have := encV_len z nums f;have := flat_len z nums r;omega
theorem flat_in {z nums : List Int} (hz : ∀ i, In64p (z.getD i 0)) (hn : ∀ x ∈ nums, In64p x) (hl : nums.length ≤ 1000) (l : List Nat) : ∀ x ∈ l.flatMap (encV z nums), In64p x := fun x hx => by
 obtain ⟨f, _, hx⟩ := List.mem_flatMap.1 hx;exact encV_in hz hn hl f x hx
theorem own_base34 {w : World} {b b2 e size n : Nat} {v : Value} {xs : List Value} (h : w.ownsRow b e size v n xs) (hb : b2 ≤ b) : w.ownsRow b2 e size v n xs := by
 refine ⟨h.1, ?_⟩
 rcases h.2 with h | ⟨g, cap, cur, hv, h1, rest⟩
 ·exact .inl h
 ·exact .inr ⟨g, cap, cur, hv, Nat.le_trans hb h1, rest⟩
def ERes34 (W : Nat) (w' : World) (e : Ending) (ok : Bool) (bs : List Nat) : Prop :=
  if ok = true then ∃ A c, e = .returned (.tuple #[.slice A bs.length c, .int .i64 0]) ∧ w'.ownsRow W 5 1 (.slice A bs.length c) bs.length (by8 bs) else e = .returned (.tuple #[.slice none 0 0, .int .i64 3])
theorem WrS.mono {W W2 : Nat} {w : World} {g : Nat} {A : Option Addr} {c : Nat} {bs : List Nat} (h : WrS W w g A c bs) (hW : W2 ≤ W) : WrS W2 w g A c bs :=
 ⟨h.wr, Nat.le_trans hW h.ge, fun b hb => Nat.le_trans hW (h.row b hb)⟩
theorem encodeE (z0 z1 z2 z3 z4 z5 z6 z7 z8 z9 z10 z11 z12 : Int) (A : Option Addr) (cap : Nat) (nums : List Int) (w : World) (hn : nums.length ≤ 1000) (h6z : ∀ i, In64p (([z0, z1, z2, z3, z4, z5, z6, z7, z8, z9, z10, z11, z12] : List Int).getD i 0)) (h6 : ∀ x ∈ nums, In64p x) (hs : Sl w A (ints .i64 nums)) :
  Calls Tryz.prog 85 #[.agg #[.int .i64 z0, .int .i64 z1, .int .i64 z2, .int .i64 z3, .int .i64 z4, .int .i64 z5, .int .i64 z6, .int .i64 z7, .int .i64 z8, .int .i64 z9, .int .i64 z10, .int .i64 z11, .int .i64 z12, .slice A nums.length cap]] w fun e w' => ERes34 w.heap.size w' e (okZ [z0, z1, z2, z3, z4, z5, z6, z7, z8, z9, z10, z11, z12] nums.length) (packL (encC [z0, z1, z2, z3, z4, z5, z6, z7, z8, z9, z10, z11, z12] nums)) ∧ Below w.heap.size w w' := by
 have hCB0 : CB (w.alloc (.cells #[.int .i64 z0, .int .i64 z1, .int .i64 z2, .int .i64 z3, .int .i64 z4, .int .i64 z5, .int .i64 z6, .int .i64 z7, .int .i64 z8, .int .i64 z9, .int .i64 z10, .int .i64 z11, .int .i64 z12, .slice A nums.length cap] 26)) w.heap.size [z0, z1, z2, z3, z4, z5, z6, z7, z8, z9, z10, z11, z12] (.slice A nums.length cap) := ⟨heap_alloc_new w _, rfl⟩;have hB0 : Below w.heap.size w (w.alloc (.cells #[.int .i64 z0, .int .i64 z1, .int .i64 z2, .int .i64 z3, .int .i64 z4, .int .i64 z5, .int .i64 z6, .int .i64 z7, .int .i64 z8, .int .i64 z9, .int .i64 z10, .int .i64 z11, .int .i64 z12, .slice A nums.length cap] 26)) := since_alloc (Below.refl _ w) _;have HCK := hJz (checkE z0 z1 z2 z3 z4 z5 z6 z7 z8 z9 z10 z11 z12 A nums.length cap (w.alloc (.cells #[.int .i64 z0, .int .i64 z1, .int .i64 z2, .int .i64 z3, .int .i64 z4, .int .i64 z5, .int .i64 z6, .int .i64 z7, .int .i64 z8, .int .i64 z9, .int .i64 z10, .int .i64 z11, .int .i64 z12, .slice A nums.length cap] 26)) (by unfold maxLen; omega));obtain ⟨b, hb⟩ : ∃ b, w.heap.size = b := ⟨_, rfl⟩;have HBW := hJz hb;have HSN : Hid (∀ V, Below b w V → Sl V A (ints .i64 nums)) := hJz fun V hV => hs.below (by rw [hb]; exact hV)
 have HSA : Hid (∀ b2 o, A = some ⟨b2, o, none⟩ → nums ≠ [] → b2 < b) := hJz fun b2 o e hne => by
  obtain ⟨b1, o1, e1, h1⟩ := hs.int (j := 0) (List.length_pos_iff.2 hne);rw [e] at e1;injection e1 with e1;injection e1 with e1 _;subst e1;have h3 : b2 < w.heap.size := World.block_lt_of_cell? _ _ h1;omega
 rw [hb] at hCB0 hB0 ⊢;clear hb hs;have hlt0 := hCB0.lt;have HCB0 := hJz hCB0;have HB0 := hJz hB0;clear hCB0 hB0;unfold ERes34;by_cases hok : okZ [z0, z1, z2, z3, z4, z5, z6, z7, z8, z9, z10, z11, z12] nums.length = true
 case neg =>
  have hok : okZ [z0, z1, z2, z3, z4, z5, z6, z7, z8, z9, z10, z11, z12] nums.length = false := by simpa using hok
  simp only [hok, Bool.false_eq_true, if_false];rw [hok, if_neg (by decide)] at HCK;clear hok;go_enter Tryz.func85, Tryz.ntmps85;go_wp2_with fail;refine HCK.out.mono ?_;rintro e v1 ⟨rfl, hb1⟩;have hB1 := HB0.out.trans (hb1.mono (Nat.le_of_lt hlt0));go_wp2_with fail;go_ret2;exact ⟨rfl, hB1⟩
 simp only [hok, if_true];rw [hok, if_pos rfl] at HCK
 have hn32 : nums.length ≤ 32 := by
  simp only [okZ, Bool.and_eq_true, decide_eq_true_eq] at hok;exact hok.1.1.1.2.2.2.2
 have h60 : In64p z0 := h6z 0;have h61 : In64p z1 := h6z 1;obtain ⟨Z, hZ⟩ : ∃ Z, Z = ([z0, z1, z2, z3, z4, z5, z6, z7, z8, z9, z10, z11, z12] : List Int) := ⟨_, rfl⟩;have hZ0 : Z.getD 0 0 = z0 := by rw [hZ]; rfl
 have hZ1 : Z.getD 1 0 = z1 := by rw [hZ]; rfl
 obtain ⟨v, hv⟩ : ∃ v, v = Value.slice A nums.length cap := ⟨_, rfl⟩;have HV0 := hJz hv;rw [← hZ] at HCB0 h6z ⊢;have HZ6 := hJz h6z;have H6 := hJz h6;have HZ0 := hJz hZ0;have HZ1 := hJz hZ1;have HENC : Hid (encC Z nums = z0 :: z1 :: (fldL z0).flatMap (encV Z nums)) := hJz (by unfold encC; rw [hZ0, hZ1]);have HF := hJz (fun V => cfld_any z0 V);have HLOW := hJz (fldL_low z0);have hL5 := fldL_five z0
 have HLEN : Hid (∀ k, (packL (z0 :: z1 :: ((fldL z0).take k).flatMap (encV Z nums))).length ≤ 5000) := hJz fun k => by
  have h1 := packL_le (l := z0 :: z1 :: ((fldL z0).take k).flatMap (encV Z nums)) (fun x hx => by
   rcases List.mem_cons.1 hx with rfl | hx
   ·exact h60
   ·rcases List.mem_cons.1 hx with rfl | hx
    ·exact h61
    ·exact flat_in h6z h6 hn _ x hx)
  have h2 := flat_len Z nums ((fldL z0).take k);have h3 : ((fldL z0).take k).length ≤ 5 := by rw [List.length_take]; omega
  have h4 : (nums.length + 2) * ((fldL z0).take k).length ≤ 34 * 5 := Nat.mul_le_mul (by omega) h3;rw [List.length_cons, List.length_cons] at h1;omega
 clear hok hZ hZ0 hZ1 hv h6z h6 hn;go_enter Tryz.func85, Tryz.ntmps85;go_wp2_with fail;refine HCK.out.mono ?_;rintro e v1 ⟨rfl, hb1⟩;have hCB1 := HCB0.out.below hb1;rw [← HV0.out] at hCB1;have hB1 := HB0.out.trans (hb1.mono (Nat.le_of_lt hlt0));have HN := hJz (wnewW v1);clear hb1 HCK;rw [HBW.out];generalize w.alloc (.cells #[.int .i64 z0, .int .i64 z1, .int .i64 z2, .int .i64 z3, .int .i64 z4, .int .i64 z5, .int .i64 z6, .int .i64 z7, .int .i64 z8, .int .i64 z9, .int .i64 z10, .int .i64 z11, .int .i64 z12, .slice A nums.length cap] 26) = W1 at *;clear HCB0 HB0 hlt0;go_wp2_with fail;refine HN.out.mono ?_;rintro e v2 ⟨g, rfl, hS2, hb2⟩;have hS2 := hS2.mono (Nat.le_of_lt hCB1.lt);have hCB2 := hCB1.below hb2;have hB2 := hB1.trans (hb2.mono (Nat.le_of_lt hCB1.lt));clear hCB1 hB1 hb2 HN;have hlt2 := hCB2.lt;have hAL := since_alloc (since_alloc (Below.refl _ v2) (.cells #[.pointer (some ⟨g, 0, none⟩)] 174)) (.cells #[.int .i64 z0, .int .i64 z1] 3)
 have hX3 : ((v2.alloc (.cells #[.pointer (some ⟨g, 0, none⟩)] 174)).alloc (.cells #[.int .i64 z0, .int .i64 z1] 3)).heap[v2.heap.size]? = some (.cells #[.pointer (some ⟨g, 0, none⟩)] 174 (0, 0)) := by
  rw [(since_alloc (Below.refl _ (v2.alloc (.cells #[.pointer (some ⟨g, 0, none⟩)] 174))) (.cells #[.int .i64 z0, .int .i64 z1] 3)).block v2.heap.size (by rw [World.size_alloc]; omega)];exact heap_alloc_new v2 _
 have hS3 := hS2.below hAL
 have HIN := hJz (wintsW b g none 0 [] (some ⟨v2.heap.size + 1, 0, none⟩) 2 [z0, z1] ((v2.alloc (.cells #[.pointer (some ⟨g, 0, none⟩)] 174)).alloc (.cells #[.int .i64 z0, .int .i64 z1] 3)) hS3 (by simp) (by simp) (fun x hx => by
  rcases List.mem_cons.1 hx with rfl | hx
  ·exact h60
  ·rw [List.mem_singleton.1 hx]; exact h61) (Sl.new1 _ _ _ _) (fun b o e _ => by
   injection e with e;injection e with e _;subst e;have := hS2.wr.lt
   exact ⟨by omega, fun e2 => by cases e2⟩))
 have HS3 := hJz hS3;have HX3 := hJz hX3;have HCB3 := hJz (hCB2.below hAL);have HB3 := hJz (hB2.trans (hAL.mono (Nat.le_of_lt hlt2)));obtain ⟨c0, f0⟩ := hCB2.got (o := 0) (by decide);obtain ⟨c1, f1⟩ := hCB2.got (o := 1) (by decide);rw [HZ0.out] at c0;rw [HZ1.out] at c1;clear hCB2 hB2 hS2 hS3 hX3 hAL h60 h61;go_wp2_with fail;refine HIN.out.mono ?_;rintro e v3 ⟨rfl, A2, c2, hW3⟩;rw [List.nil_append] at hW3;have hCB4 := HS3.out.keepC hW3.chg HCB3.out;have hX4 := HS3.out.keep hW3.chg HX3.out (fun cs t f e => by injection e with _ e2 _; subst e2; decide);have hB4 := HB3.out.trans (HS3.out.old (Nat.le_of_lt HCB3.out.lt) hW3.chg);have hS4 := hW3.s;obtain ⟨wb, hwb⟩ : ∃ wb, v2.heap.size = wb := ⟨_, rfl⟩;rw [hwb] at hX4 ⊢;clear c0 f0 c1 f1 HIN HS3 HX3 HCB3 HB3 hW3 hlt2 hwb;obtain ⟨c0, f0⟩ := hCB4.got (o := 0) (by decide);rw [HZ0.out] at c0;have hlt4 := hCB4.lt;go_wp2_with fail;refine (HF.out _).mono ?_;rintro e v4 ⟨rfl, hb4⟩;obtain ⟨L, hL⟩ : ∃ L, fldL z0 = L := ⟨_, rfl⟩;rw [hL] at HLOW HENC HLEN hL5 ⊢;have hCB5 := hCB4.below hb4;have hX5 := (hb4.block wb (Array.getElem?_eq_some_iff.1 hX4).1).trans hX4;have hB5 := hB4.trans (hb4.mono (Nat.le_of_lt hlt4));have hS5 := hS4.below hb4;clear hb4 HF hL c0 f0 hCB4 hX4 hB4 hS4 hlt4;obtain ⟨IT, hIT⟩ : ∃ IT, v4.heap.size = IT := ⟨_, rfl⟩;have hI6 : (v4.iter (bs8 L) 0).heap[IT]? = some (.stringIter (bs8 L) 0) := by rw [← hIT]; exact World.iter_heap v4 _ _
 have hA6 : Below v4.heap.size v4 (v4.iter (bs8 L) 0) := since_alloc (Below.refl _ v4) _;obtain ⟨R0, hR0⟩ : ∃ R0, ob A2 (packL [z0, z1]) c2 = R0 := ⟨_, rfl⟩
 have hW6 : Wt b g R0 A2 c2 (packL [z0, z1]) v4 (v4.iter (bs8 L) 0) := by
  rw [← hR0];exact (Wt.refl hS5).below hA6
 have HKEEP : Hid (∀ V, Chg g R0 v4 V → CB V b Z v ∧ V.heap[wb]? = some (.cells #[.pointer (some ⟨g, 0, none⟩)] 174 (0, 0)) ∧ Below b w V) := hJz fun V hC => by
  rw [← hR0] at hC;exact ⟨hS5.keepC hC hCB5, hS5.keep hC hX5 (fun cs t f e => by injection e with _ e2 _; subst e2; decide), hB5.trans (hS5.old (Nat.le_of_lt hCB5.lt) hC)⟩
 have HITG : Hid (v4.heap.size ≤ IT) := hJz (by omega);have HITE := hJz hIT;clear hIT hA6 hR0 hCB5 hX5 hB5 hS5;go_wp2_with fail;rw [HITE.out];generalize v4.iter (bs8 L) 0 = W7 at *;go_loopw [7] (fun _ wr => ∃ (k : Nat) (A2 : Option Addr) (c2 : Nat), k ≤ L.length ∧ wr.heap[IT]? = some (.stringIter (bs8 L) k) ∧ Wt b g R0 A2 c2 (packL (z0 :: z1 :: (L.take k).flatMap (encV Z nums))) v4 wr) (fun _ wr => L.length - wr.iterPos IT)
 case atStart => exact ⟨0, A2, c2, by omega, hI6, hW6⟩
 case round =>
  clear hI6 hW6;obtain ⟨k, A2, c2, hk, hI, hW⟩ := hrel;have HPOS := hJz (iter_pos hI)
  by_cases hkl : k < L.length
  ·have hnx := next_at L HLOW.out wr IT k hI hkl;obtain ⟨f, hf⟩ : ∃ f, L[k] = f := ⟨_, rfl⟩
   have hT1 : packL (z0 :: z1 :: (L.take (k + 1)).flatMap (encV Z nums)) = packL (z0 :: z1 :: (L.take k).flatMap (encV Z nums)) ++ packL (encV Z nums f) := by
    rw [take_snoc L k hkl, hf, ← packL_append];simp
   have hBL := HLEN.out k;obtain ⟨B2, hB2e⟩ : ∃ B2, packL (z0 :: z1 :: (L.take k).flatMap (encV Z nums)) = B2 := ⟨_, rfl⟩;rw [hB2e] at hT1 hW hBL;have HT1 := hJz hT1;have hI2 := Lib.iterAt_heap wr IT (bs8 L) k (k + 1) hI;have hW2 := hW.iterAt hI HITG.out (k + 1);obtain ⟨hCB2, hX2, hB2⟩ := HKEEP.out _ hW2.chg;have HSL := hJz (fun V hV => slotsR_any b f V hV);rw [hf] at hnx;have HB2 : Hid (B2.length ≤ 900000) := hJz (by omega);have hltc := hCB2.lt;have hltw := (Array.getElem?_eq_some_iff.1 hX2).1;have p0 : (wr.iterAt IT (bs8 L) (k + 1)).cell? ⟨wb, 0, none⟩ = some (.pointer (some ⟨g, 0, none⟩)) := by rw [cell_of_row _ wb 0 _ _ (0, 0) hX2]; rfl
   clear hI hW hT1 hB2e hf hBL
   by_cases h78 : f = 78
   ·have hne : ((f : Int) == 78) = true := by rw [beq_iff_eq]; omega
    have hE : encV Z nums f = (nums.length : Int) :: nums := by unfold encV; rw [if_pos h78]
    have HSL0 : Hid (slotL f = []) := hJz (by rw [h78]; rfl);have HT3 : Hid (B2 ++ packL ((nums.length : Int) :: nums) = packL (z0 :: z1 :: (L.take (k + 1)).flatMap (encV Z nums))) := hJz (by rw [HT1.out, hE]);obtain ⟨cv, fv⟩ := hCB2.gotV;rw [HV0.out] at cv;have hsn := HSN.out _ hB2
    have HPU := hJz (wput64 b g wb A2 c2 B2 A cap nums (wr.iterAt IT (bs8 L) (k + 1)) hW2.s hX2 (by omega) (by have := HB2.out; omega) H6.out hsn (fun b2 o e hne => by
     have h1 := HSA.out b2 o e hne;have h2 := hW2.s.ge
     exact ⟨by omega, fun e2 => by have := hW2.s.row b2 e2; omega⟩))
    have HC2 := hJz hCB2;have HX2 := hJz hX2;have HI2 := hJz hI2;have HBB := hJz hB2;have HW2 := hJz hW2;clear h78 hE hsn HT1 hCB2 hX2 hI2 hB2 hW2;go_upto_region 10 with fail;clear hne hnx;generalize wr.iterAt IT (bs8 L) (k + 1) = wi at *;go_wp2_with fail;refine HPU.out.mono ?_;rintro e wj ⟨rfl, A6, c6, hW6⟩;have hCB2 := HW2.out.s.keepC hW6.chg HC2.out;have hX2 := HW2.out.s.keep hW6.chg HX2.out (fun cs t f e => by injection e with _ e2 _; subst e2; decide);have hI2 := HW2.out.s.keepI hW6.chg HI2.out;have hB2 := HBB.out.trans (HW2.out.s.old (Nat.le_of_lt HC2.out.lt) hW6.chg);have hW2 := HW2.out.trans hW6;clear p0 fv cv hltw hltc HPU HW2 HC2 HX2 HI2 HBB hW6;rw [HT3.out] at hW2;have hltc := hCB2.lt;have hX9 := hX2;clear HB2;have hBL2 := HLEN.out (k + 1);have hIk := hI2;obtain ⟨B9, hB9⟩ : ∃ B9, packL (z0 :: z1 :: (L.take (k + 1)).flatMap (encV Z nums)) = B9 := ⟨_, rfl⟩;rw [hB9] at hW2 hBL2;have HB9 := hJz hB9;clear hX9 hIk hB9 HT3;have HB2 : Hid (B9.length ≤ 900000) := hJz (by omega);have HT2 : Hid (B9 ++ packL ((slotL f).map fun s => Z.getD s.1 0) = packL (z0 :: z1 :: (L.take (k + 1)).flatMap (encV Z nums))) := hJz (by rw [HSL0.out, HB9.out]; simp [packL]);clear hBL2;go_wp2_with fail;refine (HSL.out _ hltc).mono ?_;rintro e w3 ⟨⟨A3, cap3, rfl, hR3⟩, hb3⟩;have hCB3 := hCB2.below hb3;have hX3 := (hb3.block wb (Array.getElem?_eq_some_iff.1 hX2).1).trans hX2;have hI3 := iter_keep hI2 hb3;have hB3 := hB2.trans (hb3.mono (Nat.le_of_lt hCB2.lt));have hW3 := hW2.below hb3
    have HK3 : Hid (∀ V, Chg g (ob A6 B9 c6) w3 V → CB V b Z v ∧ V.heap[wb]? = some (.cells #[.pointer (some ⟨g, 0, none⟩)] 174 (0, 0)) ∧ V.heap[IT]? = some (.stringIter (bs8 L) (k + 1)) ∧ SR V A3 b f ∧ Below b w V) := hJz fun V hC =>
     ⟨hW3.s.keepC hC hCB3, hW3.s.keep hC hX3 (fun cs t f e => by injection e with _ e2 _; subst e2; decide), hW3.s.keepI hC hI3, hR3.keep hW3.s hC, hB3.trans (hW3.s.old (Nat.le_of_lt hCB3.lt) hC)⟩
    have HW3 := hJz hW3;clear hCB2 hX2 hI2 hB2 hW2 hb3 hCB3 hX3 hI3 hB3 hW3 hR3 HSL;go_wp2_with fail;go_loopw [40] (fun iv wr => ∃ (j : Nat) (A4 : Option Addr) (c4 : Nat), j ≤ (slotL f).length ∧ iv = .int .i64 (j : Int) ∧ Wt b g (ob A6 B9 c6) A4 c4 (B9 ++ packL (((slotL f).map fun s => Z.getD s.1 0).take j)) w3 wr) (fun iv _ => (slotL f).length - (intOf iv).toNat)
    case atStart => exact ⟨0, A6, c6, by omega, rfl, by simpa [packL] using Wt.refl HW3.out.s⟩
    case round =>
     obtain ⟨j, A4, c4, hj1, rfl, hW4⟩ := hrel
     by_cases hj : j < (slotL f).length
     ·have hjl : (j : Int) < ((slotL f).length : Int) := by omega
      have hj2 := slotL_two f;have hj0 : (0 : Int) ≤ (j : Int) := by omega
      obtain ⟨hC, hX, hI, hR, hB⟩ := HK3.out wr hW4.chg;obtain ⟨b2, o2, rfl, c0, c1, cc⟩ := slots_at hR.sl hj;obtain ⟨s, hs⟩ : ∃ s, (slotL f)[j] = s := ⟨_, rfl⟩;have hs13 : s.1 < 13 := by rw [← hs]; exact (slotL_low f _ (List.getElem_mem hj)).2
      rw [hs] at c0 c1 cc;obtain ⟨x, hx⟩ : ∃ x, Z.getD s.1 0 = x := ⟨_, rfl⟩;have hx6 : In64p x := by rw [← hx]; exact HZ6.out _
      have hTJ : B9 ++ packL (((slotL f).map fun s => Z.getD s.1 0).take (j + 1)) = (B9 ++ packL (((slotL f).map fun s => Z.getD s.1 0).take j)) ++ packI x := by
       rw [take_snoc _ j (by rw [List.length_map]; exact hj), packL_append, List.append_assoc, List.getElem_map, hs, hx];simp [packL]
      have hB4 : (B9 ++ packL (((slotL f).map fun s => Z.getD s.1 0).take j)).length ≤ 1000000 := by
       rw [List.length_append]
       have h1 : (packL (((slotL f).map fun s => Z.getD s.1 0).take j)).length ≤ 10 * _ := packL_le (fun x hx => by
        obtain ⟨s, _, rfl⟩ := List.mem_map.1 (List.mem_of_mem_take hx)
        exact HZ6.out _)
       rw [List.length_take, List.length_map] at h1;have := HB2.out;omega
      obtain ⟨B4, hB4e⟩ : ∃ B4, B9 ++ packL (((slotL f).map fun s => Z.getD s.1 0).take j) = B4 := ⟨_, rfl⟩;rw [hB4e] at hTJ hB4 hW4;have HTJ := hJz hTJ;have HB4 := hJz hB4;have HX6 := hJz hx6;have HW4 := hJz hW4;obtain ⟨SZ, hSZ⟩ : ∃ SZ, wr.heap.size = SZ := ⟨_, rfl⟩;have hbx := heap_alloc_new wr (.cells #[.pointer (sp b s), .int .i64 (sm s), .pointer (sq b s)] 79);have hal := since_alloc (Below.refl _ wr) (.cells #[.pointer (sp b s), .int .i64 (sm s), .pointer (sq b s)] 79);have hSW := hW4.s.below hal;have hCW := hC.below hal;have hXW := (hal.block wb (Array.getElem?_eq_some_iff.1 hX).1).trans hX;obtain ⟨WR, hWR⟩ : ∃ WR, wr.alloc (.cells #[.pointer (sp b s), .int .i64 (sm s), .pointer (sq b s)] 79) = WR := ⟨_, rfl⟩;rw [hWR] at hbx hal hSW hCW hXW;rw [hSZ] at hbx;have HAL := hJz hal;have HSW := hJz hSW
      have HV : Hid (∀ V, Chg g (ob A4 B4 c4) WR V → Calls Tryz.prog 31 #[sagg b s] V fun e w' => e = .returned (.int .i64 x) ∧ Below V.heap.size V w') := hJz fun V hC => by
       rw [← hx];exact value_any b Z v s V (hSW.keepC hC hCW) hs13
      have HF14 : Hid (∀ V, Chg g (ob A4 B4 c4) WR V → V.cell? ⟨wb, 0, none⟩ = some (.pointer (some ⟨g, 0, none⟩)) ∧ wb < V.heap.size ∧ V.cell? ⟨SZ, 0, none⟩ = some (.pointer (sp b s)) ∧ V.cell? ⟨SZ, 1, none⟩ = some (.int .i64 (sm s)) ∧ V.cell? ⟨SZ, 2, none⟩ = some (.pointer (sq b s)) ∧ SZ < V.heap.size) := hJz fun V hC => by
       have h1 := hSW.keep hC hXW (fun cs t f e => by injection e with _ e2 _; subst e2; decide);have h2 := hSW.keep hC hbx (fun cs t f e => by injection e with _ e2 _; subst e2; decide)
       refine ⟨?_, (Array.getElem?_eq_some_iff.1 h1).1, ?_, ?_, ?_, (Array.getElem?_eq_some_iff.1 h2).1⟩
       ·rw [cell_of_row V wb _ _ _ (0, 0) h1]; rfl
       all_goals rw [cell_of_row V SZ _ _ _ (0, 0) h2]; rfl
      have HWR := hJz hWR;have HSZ := hJz hSZ;clear hs hx hx6 hTJ hB4 hB4e hW4 hbx hal hSW hCW hXW hC hX hI hR hB hWR hSZ;go_upto_region 14 with fail;rw [HWR.out, HSZ.out];clear c0 c1 cc;refine wp_region_held_drew (S := (fun V => Chg g (ob A4 B4 c4) WR V)) (by kernel_rfl) (by exact (Chg.of_below (Below.refl _ WR).drew)) (fun hHeld => ?_);refine tkI 0 44 rfl (by intro w hSw; obtain ⟨p0, pl, t0, t1, t2, tl⟩ := HF14.out _ hSw; go_simp <;> with_reducible rfl) hHeld ?_; simp only [pqZ];refine tkI 1 45 rfl (by intro w hSw; obtain ⟨p0, pl, t0, t1, t2, tl⟩ := HF14.out _ hSw; go_simp <;> with_reducible rfl) hHeld ?_; simp only [pqZ];refine tkI 2 46 rfl (by intro w hSw; obtain ⟨p0, pl, t0, t1, t2, tl⟩ := HF14.out _ hSw; go_simp <;> with_reducible rfl) hHeld ?_; simp only [pqZ];refine rdZ 3 47 rfl (by kernel_rfl) (fun K hK => ?_)
      go_simp
      refine (HV.out _ hHeld).mono ?_;rintro e y1 ⟨rfl, hby⟩;have hKeep : Chg g (ob A4 B4 c4) WR y1 := hHeld.trans (Chg.of_below hby) (.inl rfl);have hCy := hKeep;have hSy := (HSW.out.below (Below.refl _ WR).drew).below hby
      have hWy := ((Wt.refl HSW.out).below (Below.refl _ WR).drew).below hby
      clear hby
      go_wp2_with fail;refine hK.out _ _ (by (try dsimp only); exact hKeep) (fun hHeld => ?_); clear hK K hKeep; try simp only [pqZ]
      refine rdZ 4 48 rfl (by kernel_rfl) (fun K hK => ?_);have hHd := hHeld;obtain ⟨p0, pl, t0, t1, t2, tl⟩ := HF14.out _ hHd;have hKeep : Chg g (ob A4 B4 c4) WR (y1.alloc (.cells #[.int .i64 x] 2)) := hHeld.trans (Chg.of_below (since_alloc (Below.refl _ _) _)) (.inl rfl)
      go_simp
      refine hK.out _ _ (by (try dsimp only); exact hKeep) (fun hHeld => ?_); clear hK K hKeep; try simp only [pqZ]
      refine rdZ 5 49 rfl (by kernel_rfl) (fun K hK => ?_)
      go_simp
      refine (wint1 b g A4 c4 B4 x y1 hSy HB4.out HX6.out).mono ?_;rintro e y2 ⟨rfl, A5, c5, hW5⟩;have hKeep : Chg g (ob A4 B4 c4) WR y2 := hCy.trans hW5.chg (.inl rfl);have hWz := hWy.trans hW5;clear hW5;go_wp2_with fail;refine hK.out _ _ (by (try dsimp only); exact hKeep) (fun hHeld => ?_); clear hK K hKeep; try simp only [pqZ]
      refine wpAnyH_done (by kernel_rfl) ?_ _;go_wp2_with fail;go_roundw
      case rel =>
       refine ⟨j + 1, A5, c5, by omega, by go_num, ?_⟩;have h := HW4.out.trans (((Wt.refl HW4.out.s).below HAL.out).trans hWz);rw [HTJ.out];exact h
      case measure => simp [intOf]; omega
     ·obtain rfl : j = (slotL f).length := by omega
      obtain ⟨hC, hX, hI, hR, hB⟩ := HK3.out wr hW4.chg;have hpos := iter_pos hI;rw [List.take_of_length_le (by rw [List.length_map]; omega)] at hW4;have hWN := HW3.out.trans hW4;rw [HT2.out] at hWN;clear hW4 hC hX hR hB;go_wp2_with fail;go_roundw
      case rel => exact ⟨k + 1, A4, c4, by omega, hI, hWN⟩
      case measure =>
       rw [hpos];have := HPOS.out;omega
   ·have hne : ((f : Int) == 78) = false := by rw [beq_eq_false_iff_ne]; omega
    have HT2 : Hid (B2 ++ packL ((slotL f).map fun s => Z.getD s.1 0) = packL (z0 :: z1 :: (L.take (k + 1)).flatMap (encV Z nums))) := hJz (by rw [HT1.out]; unfold encV; rw [if_neg h78]);clear p0 hltw HT1;go_upto_region 11 with fail;clear hne;generalize wr.iterAt IT (bs8 L) (k + 1) = wi at *;clear hnx;go_wp2_with fail;refine (HSL.out _ hltc).mono ?_;rintro e w3 ⟨⟨A3, cap3, rfl, hR3⟩, hb3⟩;have hCB3 := hCB2.below hb3;have hX3 := (hb3.block wb (Array.getElem?_eq_some_iff.1 hX2).1).trans hX2;have hI3 := iter_keep hI2 hb3;have hB3 := hB2.trans (hb3.mono (Nat.le_of_lt hCB2.lt));have hW3 := hW2.below hb3
    have HK3 : Hid (∀ V, Chg g (ob A2 B2 c2) w3 V → CB V b Z v ∧ V.heap[wb]? = some (.cells #[.pointer (some ⟨g, 0, none⟩)] 174 (0, 0)) ∧ V.heap[IT]? = some (.stringIter (bs8 L) (k + 1)) ∧ SR V A3 b f ∧ Below b w V) := hJz fun V hC =>
     ⟨hW3.s.keepC hC hCB3, hW3.s.keep hC hX3 (fun cs t f e => by injection e with _ e2 _; subst e2; decide), hW3.s.keepI hC hI3, hR3.keep hW3.s hC, hB3.trans (hW3.s.old (Nat.le_of_lt hCB3.lt) hC)⟩
    have HW3 := hJz hW3;clear hCB2 hX2 hI2 hB2 hW2 hb3 hCB3 hX3 hI3 hB3 hW3 hR3 HSL;go_wp2_with fail;go_loopw [40] (fun iv wr => ∃ (j : Nat) (A4 : Option Addr) (c4 : Nat), j ≤ (slotL f).length ∧ iv = .int .i64 (j : Int) ∧ Wt b g (ob A2 B2 c2) A4 c4 (B2 ++ packL (((slotL f).map fun s => Z.getD s.1 0).take j)) w3 wr) (fun iv _ => (slotL f).length - (intOf iv).toNat)
    case atStart => exact ⟨0, A2, c2, by omega, rfl, by simpa [packL] using Wt.refl HW3.out.s⟩
    case round =>
     obtain ⟨j, A4, c4, hj1, rfl, hW4⟩ := hrel
     by_cases hj : j < (slotL f).length
     ·have hjl : (j : Int) < ((slotL f).length : Int) := by omega
      have hj2 := slotL_two f;have hj0 : (0 : Int) ≤ (j : Int) := by omega
      obtain ⟨hC, hX, hI, hR, hB⟩ := HK3.out wr hW4.chg;obtain ⟨b2, o2, rfl, c0, c1, cc⟩ := slots_at hR.sl hj;obtain ⟨s, hs⟩ : ∃ s, (slotL f)[j] = s := ⟨_, rfl⟩;have hs13 : s.1 < 13 := by rw [← hs]; exact (slotL_low f _ (List.getElem_mem hj)).2
      rw [hs] at c0 c1 cc;obtain ⟨x, hx⟩ : ∃ x, Z.getD s.1 0 = x := ⟨_, rfl⟩;have hx6 : In64p x := by rw [← hx]; exact HZ6.out _
      have hTJ : B2 ++ packL (((slotL f).map fun s => Z.getD s.1 0).take (j + 1)) = (B2 ++ packL (((slotL f).map fun s => Z.getD s.1 0).take j)) ++ packI x := by
       rw [take_snoc _ j (by rw [List.length_map]; exact hj), packL_append, List.append_assoc, List.getElem_map, hs, hx];simp [packL]
      have hB4 : (B2 ++ packL (((slotL f).map fun s => Z.getD s.1 0).take j)).length ≤ 1000000 := by
       rw [List.length_append]
       have h1 : (packL (((slotL f).map fun s => Z.getD s.1 0).take j)).length ≤ 10 * _ := packL_le (fun x hx => by
        obtain ⟨s, _, rfl⟩ := List.mem_map.1 (List.mem_of_mem_take hx)
        exact HZ6.out _)
       rw [List.length_take, List.length_map] at h1;have := HB2.out;omega
      obtain ⟨B4, hB4e⟩ : ∃ B4, B2 ++ packL (((slotL f).map fun s => Z.getD s.1 0).take j) = B4 := ⟨_, rfl⟩;rw [hB4e] at hTJ hB4 hW4;have HTJ := hJz hTJ;have HB4 := hJz hB4;have HX6 := hJz hx6;have HW4 := hJz hW4;obtain ⟨SZ, hSZ⟩ : ∃ SZ, wr.heap.size = SZ := ⟨_, rfl⟩;have hbx := heap_alloc_new wr (.cells #[.pointer (sp b s), .int .i64 (sm s), .pointer (sq b s)] 79);have hal := since_alloc (Below.refl _ wr) (.cells #[.pointer (sp b s), .int .i64 (sm s), .pointer (sq b s)] 79);have hSW := hW4.s.below hal;have hCW := hC.below hal;have hXW := (hal.block wb (Array.getElem?_eq_some_iff.1 hX).1).trans hX;obtain ⟨WR, hWR⟩ : ∃ WR, wr.alloc (.cells #[.pointer (sp b s), .int .i64 (sm s), .pointer (sq b s)] 79) = WR := ⟨_, rfl⟩;rw [hWR] at hbx hal hSW hCW hXW;rw [hSZ] at hbx;have HAL := hJz hal;have HSW := hJz hSW
      have HV : Hid (∀ V, Chg g (ob A4 B4 c4) WR V → Calls Tryz.prog 31 #[sagg b s] V fun e w' => e = .returned (.int .i64 x) ∧ Below V.heap.size V w') := hJz fun V hC => by
       rw [← hx];exact value_any b Z v s V (hSW.keepC hC hCW) hs13
      have HF14 : Hid (∀ V, Chg g (ob A4 B4 c4) WR V → V.cell? ⟨wb, 0, none⟩ = some (.pointer (some ⟨g, 0, none⟩)) ∧ wb < V.heap.size ∧ V.cell? ⟨SZ, 0, none⟩ = some (.pointer (sp b s)) ∧ V.cell? ⟨SZ, 1, none⟩ = some (.int .i64 (sm s)) ∧ V.cell? ⟨SZ, 2, none⟩ = some (.pointer (sq b s)) ∧ SZ < V.heap.size) := hJz fun V hC => by
       have h1 := hSW.keep hC hXW (fun cs t f e => by injection e with _ e2 _; subst e2; decide);have h2 := hSW.keep hC hbx (fun cs t f e => by injection e with _ e2 _; subst e2; decide)
       refine ⟨?_, (Array.getElem?_eq_some_iff.1 h1).1, ?_, ?_, ?_, (Array.getElem?_eq_some_iff.1 h2).1⟩
       ·rw [cell_of_row V wb _ _ _ (0, 0) h1]; rfl
       all_goals rw [cell_of_row V SZ _ _ _ (0, 0) h2]; rfl
      have HWR := hJz hWR;have HSZ := hJz hSZ;clear hs hx hx6 hTJ hB4 hB4e hW4 hbx hal hSW hCW hXW hC hX hI hR hB hWR hSZ;go_upto_region 14 with fail;rw [HWR.out, HSZ.out];clear c0 c1 cc;refine wp_region_held_drew (S := (fun V => Chg g (ob A4 B4 c4) WR V)) (by kernel_rfl) (by exact (Chg.of_below (Below.refl _ WR).drew)) (fun hHeld => ?_);refine tkI 0 44 rfl (by intro w hSw; obtain ⟨p0, pl, t0, t1, t2, tl⟩ := HF14.out _ hSw; go_simp <;> with_reducible rfl) hHeld ?_; simp only [pqZ];refine tkI 1 45 rfl (by intro w hSw; obtain ⟨p0, pl, t0, t1, t2, tl⟩ := HF14.out _ hSw; go_simp <;> with_reducible rfl) hHeld ?_; simp only [pqZ];refine tkI 2 46 rfl (by intro w hSw; obtain ⟨p0, pl, t0, t1, t2, tl⟩ := HF14.out _ hSw; go_simp <;> with_reducible rfl) hHeld ?_; simp only [pqZ];refine rdZ 3 47 rfl (by kernel_rfl) (fun K hK => ?_)
      go_simp
      refine (HV.out _ hHeld).mono ?_;rintro e y1 ⟨rfl, hby⟩;have hKeep : Chg g (ob A4 B4 c4) WR y1 := hHeld.trans (Chg.of_below hby) (.inl rfl);have hCy := hKeep;have hSy := (HSW.out.below (Below.refl _ WR).drew).below hby
      have hWy := ((Wt.refl HSW.out).below (Below.refl _ WR).drew).below hby
      clear hby
      go_wp2_with fail;refine hK.out _ _ (by (try dsimp only); exact hKeep) (fun hHeld => ?_); clear hK K hKeep; try simp only [pqZ]
      refine rdZ 4 48 rfl (by kernel_rfl) (fun K hK => ?_);have hHd := hHeld;obtain ⟨p0, pl, t0, t1, t2, tl⟩ := HF14.out _ hHd;have hKeep : Chg g (ob A4 B4 c4) WR (y1.alloc (.cells #[.int .i64 x] 2)) := hHeld.trans (Chg.of_below (since_alloc (Below.refl _ _) _)) (.inl rfl)
      go_simp
      refine hK.out _ _ (by (try dsimp only); exact hKeep) (fun hHeld => ?_); clear hK K hKeep; try simp only [pqZ]
      refine rdZ 5 49 rfl (by kernel_rfl) (fun K hK => ?_)
      go_simp
      refine (wint1 b g A4 c4 B4 x y1 hSy HB4.out HX6.out).mono ?_;rintro e y2 ⟨rfl, A5, c5, hW5⟩;have hKeep : Chg g (ob A4 B4 c4) WR y2 := hCy.trans hW5.chg (.inl rfl);have hWz := hWy.trans hW5;clear hW5;go_wp2_with fail;refine hK.out _ _ (by (try dsimp only); exact hKeep) (fun hHeld => ?_); clear hK K hKeep; try simp only [pqZ]
      refine wpAnyH_done (by kernel_rfl) ?_ _;go_wp2_with fail;go_roundw
      case rel =>
       refine ⟨j + 1, A5, c5, by omega, by go_num, ?_⟩;have h := HW4.out.trans (((Wt.refl HW4.out.s).below HAL.out).trans hWz);rw [HTJ.out];exact h
      case measure => simp [intOf]; omega
     ·obtain rfl : j = (slotL f).length := by omega
      obtain ⟨hC, hX, hI, hR, hB⟩ := HK3.out wr hW4.chg;have hpos := iter_pos hI;rw [List.take_of_length_le (by rw [List.length_map]; omega)] at hW4;have hWN := HW3.out.trans hW4;rw [HT2.out] at hWN;clear hW4 hC hX hR hB;go_wp2_with fail;go_roundw
      case rel => exact ⟨k + 1, A4, c4, by omega, hI, hWN⟩
      case measure =>
       rw [hpos];have := HPOS.out;omega
  ·have hnx := next_end L wr IT k hI hkl;obtain rfl : k = L.length := by omega
   rw [List.take_length] at hW;obtain ⟨hC, hX, hB⟩ := HKEEP.out wr hW.chg;have hBL := HLEN.out L.length;rw [List.take_length] at hBL;obtain ⟨B9, hB9⟩ : ∃ B9, packL (z0 :: z1 :: L.flatMap (encV Z nums)) = B9 := ⟨_, rfl⟩;have HE9 : Hid (packL (encC Z nums) = B9) := hJz (by rw [HENC.out, hB9]);rw [hB9] at hW hBL;have HD := hJz (wdone_any g A2 c2 B9 wr hW.s.wr (by omega));have p0 : wr.cell? ⟨wb, 0, none⟩ = some (.pointer (some ⟨g, 0, none⟩)) := by rw [cell_of_row _ wb 0 _ _ (0, 0) hX]; rfl
   have hltw := (Array.getElem?_eq_some_iff.1 hX).1;have hbl := hC.lt;clear hB9 hW hC hX hI HPOS HKEEP HLEN;go_wp2_with fail;refine HD.out.mono ?_;rintro e v9 ⟨⟨A9, c9, rfl, own9⟩, hb9⟩;have hB9 := hB.trans (hb9.mono (Nat.le_of_lt hbl));clear hnx HD;go_wp2_with fail;go_ret2
   refine ⟨⟨A9, c9, ?_, ?_⟩, hB9⟩
   ·rw [HE9.out]; rfl
   ·rw [HE9.out];exact own_base34 own9 (Nat.le_of_lt hbl)
end
end Go.Proofs.YtpmnjojednbnpaaGreatDoor
