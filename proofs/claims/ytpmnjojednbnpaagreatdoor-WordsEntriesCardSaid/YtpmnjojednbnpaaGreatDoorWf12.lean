import Derived.Lib.Join
import Derived.Test.YtpmnjojednbnpaaGreatDoorWf10
import Derived.Test.YtpmnjojednbnpaaGreatDoorWf11
set_option maxHeartbeats 16000000
set_option maxRecDepth 100000
set_option linter.unusedVariables false
set_option linter.unusedSimpArgs false
namespace Go.Proofs.YtpmnjojednbnpaaGreatDoor
open Go.ChangeShapes Go.WideShapes Go.ChangeAt Go.RowKit
section
def fldW (z nums : List Int) (f : Nat) : List (List UInt8) := if f = 78 then nums.map Lib.itoa else [Lib.join ((slotL f).map fun s => Lib.itoa (z.getD s.1 0)) [46]]
def lineW (z nums : List Int) : List (List UInt8) := wordB (z.getD 0 0) :: Lib.itoa (z.getD 1 0) :: (fldL (z.getD 0 0)).flatMap (fldW z nums)
def lineB (z nums : List Int) : List UInt8 := Lib.join (lineW z nums) [32]
theorem fldL_memW (op : Int) : ∀ x ∈ fldL op, x = 77 ∨ x = 85 ∨ x = 79 ∨ x = 73 ∨ x = 65 ∨ x = 84 ∨ x = 68 ∨ x = 81 ∨ x = 80 ∨ x = 78 := by
 have h := fldL_cases op
 rcases h with h | h | h | h | h | h | h | h | h | h | h | h | h | h | h <;> rw [h] <;> decide
theorem slotL_neW {op : Int} {f : Nat} (h : f ∈ fldL op) (h78 : f ≠ 78) : 0 < (slotL f).length := by
 rcases fldL_memW op f h with rfl | rfl | rfl | rfl | rfl | rfl | rfl | rfl | rfl | rfl
 all_goals first | decide | exact absurd rfl h78
theorem fldL_fiveW (op : Int) : (fldL op).length ≤ 5 := by
 have h := fldL_cases op
 rcases h with h | h | h | h | h | h | h | h | h | h | h | h | h | h | h <;> rw [h] <;> decide
theorem slotL_twoW (f : Nat) : (slotL f).length ≤ 2 := by
 unfold slotL
 repeat' split
 all_goals decide
theorem lens_le {m : Nat} : ∀ (L : List (List UInt8)), (∀ x ∈ L, x.length ≤ m) → Lib.lens L ≤ m * L.length
 | [], _ => by simp [Lib.lens]
 | x :: r, h => by
  have h1 := h x (by simp);have h2 := lens_le r (fun y hy => h y (by simp [hy]));have e : Lib.lens (x :: r) = x.length + Lib.lens r := by simp [Lib.lens]
  rw [e, List.length_cons, Nat.mul_add];omega
theorem join_le {m : Nat} (L : List (List UInt8)) (sep : List UInt8) (h : ∀ x ∈ L, x.length ≤ m) : (Lib.join L sep).length ≤ (m + sep.length) * L.length := by
 match L, h with
 | [], _ => simp [Lib.join]
 | x :: r, h =>
  rw [Lib.join_length];have h1 := lens_le (x :: r) h;have h2 : sep.length * r.length ≤ sep.length * (x :: r).length := Nat.mul_le_mul_left _ (by rw [List.length_cons]; omega);rw [Nat.add_mul];omega
theorem wordB_len (op : Int) : (wordB op).length ≤ 20 := by
 unfold wordB
 split
 ·have h : ∀ l ∈ opsW, l.length ≤ 20 := by decide +kernel
  rw [List.getD_eq_getElem?_getD]
  cases hk : opsW[(op - 1).toNat]? with
  | none => simp
  | some l => exact h l (List.mem_of_getElem? hk)
 ·simp
theorem fldW_len {z nums : List Int} (h6z : ∀ i, In64p (z.getD i 0)) (h6 : ∀ x ∈ nums, In64p x) (hn : nums.length ≤ 1000) (f : Nat) : (∀ x ∈ fldW z nums f, x.length ≤ 44) ∧ (fldW z nums f).length ≤ 1000 := by
 unfold fldW
 split
 ·refine ⟨fun x hx => ?_, by rw [List.length_map]; exact hn⟩;obtain ⟨n, hn, rfl⟩ := List.mem_map.1 hx;have := itoa_len n (h6 n hn);omega
 ·refine ⟨fun x hx => ?_, by simp⟩;rw [List.mem_singleton.1 hx]
  have h1 := join_le (m := 21) ((slotL f).map fun s => Lib.itoa (z.getD s.1 0)) [46] (fun x hx => by
   obtain ⟨s, _, rfl⟩ := List.mem_map.1 hx
   exact itoa_len _ (h6z _))
  rw [List.length_map] at h1;have h2 := slotL_twoW f;have h3 : (21 + ([46] : List UInt8).length) * (slotL f).length ≤ 22 * 2 := Nat.mul_le_mul (by simp) h2;omega
theorem flatW_len {z nums : List Int} (h6z : ∀ i, In64p (z.getD i 0)) (h6 : ∀ x ∈ nums, In64p x) (hn : nums.length ≤ 1000) : ∀ l : List Nat, (∀ x ∈ l.flatMap (fldW z nums), x.length ≤ 44) ∧ (l.flatMap (fldW z nums)).length ≤ 1000 * l.length
 | [] => ⟨(fun x hx => by cases hx), by simp⟩
 | f :: r => by
  obtain ⟨a, b⟩ := fldW_len h6z h6 hn f;obtain ⟨c, d⟩ := flatW_len h6z h6 hn r;rw [List.flatMap_cons]
  refine ⟨fun x hx => ?_, ?_⟩
  ·rcases List.mem_append.1 hx with hx | hx
   ·exact a x hx
   ·exact c x hx
  ·rw [List.length_append, List.length_cons];omega
theorem wlineE (z0 z1 z2 z3 z4 z5 z6 z7 z8 z9 z10 z11 z12 : Int) (A : Option Addr) (cap : Nat) (nums : List Int) (w : World) (hn : nums.length ≤ 1000) (h6z : ∀ i, In64p (([z0, z1, z2, z3, z4, z5, z6, z7, z8, z9, z10, z11, z12] : List Int).getD i 0)) (h6 : ∀ x ∈ nums, In64p x) (hs : Sl w A (ints .i64 nums)) (hE : EvB w.heap.size w) :
  Calls Tryz.prog 8 #[.agg #[.int .i64 z0, .int .i64 z1, .int .i64 z2, .int .i64 z3, .int .i64 z4, .int .i64 z5, .int .i64 z6, .int .i64 z7, .int .i64 z8, .int .i64 z9, .int .i64 z10, .int .i64 z11, .int .i64 z12, .slice A nums.length cap]] w fun e w' => e = .returned (.tuple (if okZ [z0, z1, z2, z3, z4, z5, z6, z7, z8, z9, z10, z11, z12] nums.length = true then #[.string (S8 (lineB [z0, z1, z2, z3, z4, z5, z6, z7, z8, z9, z10, z11, z12] nums)), .int .i64 0] else #[.string (S8 []), .int .i64 3])) ∧ Below w.heap.size w w' := by
 have hCB0 : CB (w.alloc (.cells #[.int .i64 z0, .int .i64 z1, .int .i64 z2, .int .i64 z3, .int .i64 z4, .int .i64 z5, .int .i64 z6, .int .i64 z7, .int .i64 z8, .int .i64 z9, .int .i64 z10, .int .i64 z11, .int .i64 z12, .slice A nums.length cap] 26)) w.heap.size [z0, z1, z2, z3, z4, z5, z6, z7, z8, z9, z10, z11, z12] (.slice A nums.length cap) := ⟨heap_alloc_new w _, rfl⟩;have hB0 : Below w.heap.size w (w.alloc (.cells #[.int .i64 z0, .int .i64 z1, .int .i64 z2, .int .i64 z3, .int .i64 z4, .int .i64 z5, .int .i64 z6, .int .i64 z7, .int .i64 z8, .int .i64 z9, .int .i64 z10, .int .i64 z11, .int .i64 z12, .slice A nums.length cap] 26)) := since_alloc (Below.refl _ w) _;have HCK := hJz (checkE z0 z1 z2 z3 z4 z5 z6 z7 z8 z9 z10 z11 z12 A nums.length cap (w.alloc (.cells #[.int .i64 z0, .int .i64 z1, .int .i64 z2, .int .i64 z3, .int .i64 z4, .int .i64 z5, .int .i64 z6, .int .i64 z7, .int .i64 z8, .int .i64 z9, .int .i64 z10, .int .i64 z11, .int .i64 z12, .slice A nums.length cap] 26)) (by unfold maxLen; omega));obtain ⟨b, hb⟩ : ∃ b, w.heap.size = b := ⟨_, rfl⟩;have HBW := hJz hb;have HSN : Hid (∀ V, Below b w V → Sl V A (ints .i64 nums)) := hJz fun V hV => hs.below (by rw [hb]; exact hV);rw [hb] at hCB0 hB0 hE ⊢;have HE := hJz hE;clear hb hs hE;have hlt0 := hCB0.lt;have HCB0 := hJz hCB0;have HB0 := hJz hB0;clear hCB0 hB0;by_cases hok : okZ [z0, z1, z2, z3, z4, z5, z6, z7, z8, z9, z10, z11, z12] nums.length = true
 case neg =>
  have hok : okZ [z0, z1, z2, z3, z4, z5, z6, z7, z8, z9, z10, z11, z12] nums.length = false := by simpa using hok
  simp only [hok, Bool.false_eq_true, if_false];rw [hok, if_neg (by decide)] at HCK;clear hok;go_enter Tryz.func8, Tryz.ntmps8;go_wp2_with fail;refine HCK.out.mono ?_;rintro e v1 ⟨rfl, hb1⟩;have hB1 := HB0.out.trans (hb1.mono (Nat.le_of_lt hlt0));go_wp2_with fail;go_ret2;exact ⟨rfl, hB1⟩
 simp only [hok, if_true];rw [hok, if_pos rfl] at HCK;have h60 : In64p z0 := h6z 0;have h61 : In64p z1 := h6z 1;obtain ⟨Z, hZ⟩ : ∃ Z, Z = ([z0, z1, z2, z3, z4, z5, z6, z7, z8, z9, z10, z11, z12] : List Int) := ⟨_, rfl⟩;have hZ0 : Z.getD 0 0 = z0 := by rw [hZ]; rfl
 have hZ1 : Z.getD 1 0 = z1 := by rw [hZ]; rfl
 obtain ⟨v, hv⟩ : ∃ v, v = Value.slice A nums.length cap := ⟨_, rfl⟩;have HV0 := hJz hv;rw [← hZ] at HCB0 h6z ⊢;have HZ6 := hJz h6z;have H6 := hJz h6;have HZ0 := hJz hZ0;have HZ1 := hJz hZ1;have HENC : Hid (lineW Z nums = [wordB z0, Lib.itoa z1] ++ (fldL z0).flatMap (fldW Z nums)) := hJz (by unfold lineW; rw [hZ0, hZ1]; rfl);have HLB : Hid (lineB Z nums = Lib.join (lineW Z nums) [32]) := hJz rfl;have HF := hJz (fun V => cfld_any z0 V);have HLOW := hJz (fldL_low z0);have HMEM : Hid (∀ k, (h : k < (fldL z0).length) → (fldL z0)[k] ≠ 78 → 0 < (slotL (fldL z0)[k]).length) := hJz fun k h => slotL_neW (List.getElem_mem h);have hL5 := fldL_fiveW z0
 have HLEN : Hid (∀ k, (([wordB z0, Lib.itoa z1] : List (List UInt8)) ++ ((fldL z0).take k).flatMap (fldW Z nums)).length ≤ 5002 ∧ ∀ x ∈ ([wordB z0, Lib.itoa z1] : List (List UInt8)) ++ ((fldL z0).take k).flatMap (fldW Z nums), x.length ≤ 44) := hJz fun k => by
  obtain ⟨a, c⟩ := flatW_len h6z h6 hn ((fldL z0).take k);have h3 : ((fldL z0).take k).length ≤ 5 := by rw [List.length_take]; omega
  refine ⟨by rw [List.length_append, List.length_cons, List.length_cons, List.length_nil]; omega, fun x hx => ?_⟩
  rcases List.mem_append.1 hx with hx | hx
  ·rcases List.mem_cons.1 hx with rfl | hx
   ·have := wordB_len z0; omega
   ·rw [List.mem_singleton.1 hx]; have := itoa_len z1 h61; omega
  ·exact a x hx
 have HWD := hJz (fun V (h : Ev V) => wword z0 h60 V h);have HSM := hJz (fun V (h : Ev V) => wsmall z1 h61 V h);clear hok hZ hZ0 hZ1 hv h6z h6 h60 h61;go_enter Tryz.func8, Tryz.ntmps8;go_wp2_with fail;refine HCK.out.mono ?_;rintro e v1 ⟨rfl, hb1⟩;have hCB1 := HCB0.out.below hb1;rw [← HV0.out] at hCB1;have hB1 := HB0.out.trans (hb1.mono (Nat.le_of_lt hlt0));clear hb1 HCK;rw [HBW.out];generalize w.alloc (.cells #[.int .i64 z0, .int .i64 z1, .int .i64 z2, .int .i64 z3, .int .i64 z4, .int .i64 z5, .int .i64 z6, .int .i64 z7, .int .i64 z8, .int .i64 z9, .int .i64 z10, .int .i64 z11, .int .i64 z12, .slice A nums.length cap] 26) = W1 at *;clear HCB0 HB0 hlt0;have hTn := TxS.new v1;have hal := since_alloc (Below.refl _ v1) (.cells #[.slice none 0 0] 70);obtain ⟨g, hg⟩ : ∃ g, v1.heap.size = g := ⟨_, rfl⟩;obtain ⟨Y, hY⟩ : ∃ Y, v1.alloc (.cells #[.slice none 0 0] 70) = Y := ⟨_, rfl⟩;have hCBY := hCB1.below hal;have hBY := hB1.trans (hal.mono (Nat.le_of_lt hCB1.lt));have hgb : b ≤ g := by rw [← hg]; exact Nat.le_of_lt hCB1.lt
 have HGE := hJz hg;have HYE := hJz hY;rw [hY] at hCBY hBY hTn;rw [hg] at hTn;have hTS : TxS b Y g none 0 [] := ⟨hTn.blk, own_nil _ _ _, hgb⟩;have hT0 : Tt b g none none 0 [] Y Y := Tt.refl hTS;have HT0 := hJz hT0;have HBY : Hid (b ≤ Y.heap.size) := hJz (Nat.le_of_lt hCBY.lt);have HKY : Hid (∀ V, Chg g none Y V → CB V b Z v ∧ Below b w V) := hJz fun V hC => ⟨hTS.keepC hC hCBY, hBY.trans (hTS.old (Nat.le_of_lt hCBY.lt) hC)⟩;have HEV : Hid (∀ V, Chg g none Y V → Ev V) := hJz fun V hC => HE.out V (HKY.out V hC).2
 have HF5 : Hid (∀ V, Chg g none Y V → V.cell? ⟨b, 0, none⟩ = some (.int .i64 z0) ∧ V.cell? ⟨b, 0 + 1, none⟩ = some (.int .i64 z1) ∧ b < V.heap.size) := hJz fun V hC => by
  have h := (HKY.out V hC).1;have h0 := (h.got (o := 0) (by decide)).1;have h1 := (h.got (o := 1) (by decide)).1;rw [HZ0.out] at h0;rw [HZ1.out] at h1;exact ⟨h0, h1, h.lt⟩
 clear hTn hal hg hY hCBY hBY hTS hT0 hCB1 hB1 hgb;go_upto_region 5 with fail;rw [HGE.out, HYE.out];refine wp_region_held_drew (S := (fun V => Chg g none Y V)) (by kernel_rfl) (by exact (Chg.of_below (Below.refl _ Y).drew)) (fun hHeld => ?_);refine tkI 0 20 rfl (by intro w hSw; obtain ⟨p0, p1, pl⟩ := HF5.out _ (hSw); go_simp <;> with_reducible rfl) hHeld ?_; simp only [pqZ];refine tkI 1 21 rfl (by intro w hSw; obtain ⟨p0, p1, pl⟩ := HF5.out _ (hSw); go_simp <;> with_reducible rfl) hHeld ?_; simp only [pqZ];refine tkI 2 22 rfl (by intro w hSw; obtain ⟨p0, p1, pl⟩ := HF5.out _ (hSw); go_simp <;> with_reducible rfl) hHeld ?_; simp only [pqZ];refine tkI 4 24 rfl (by intro w hSw; obtain ⟨p0, p1, pl⟩ := HF5.out _ (hSw); go_simp <;> with_reducible rfl) hHeld ?_; simp only [pqZ];refine tkI 5 25 rfl (by intro w hSw; obtain ⟨p0, p1, pl⟩ := HF5.out _ (hSw); go_simp <;> with_reducible rfl) hHeld ?_; simp only [pqZ];refine rdZ 3 23 rfl (by kernel_rfl) (fun K hK => ?_)
 go_simp
 refine (HWD.out _ (HEV.out _ hHeld)).mono ?_;rintro e y1 ⟨rfl, hb1⟩;have hT1 := (HT0.out.below (Below.refl _ Y).drew).below hb1;have hKeep := hT1.chg;clear hb1;go_wp2_with fail;refine hK.out _ _ (by (try dsimp only); exact hKeep) (fun hHeld => ?_); clear hK K hKeep; try simp only [pqZ]
 refine rdZ 6 26 rfl (by kernel_rfl) (fun K hK => ?_)
 go_simp
 refine (HSM.out _ (HEV.out _ hHeld)).mono ?_;rintro e y2 ⟨rfl, hb2⟩;have hT2 := hT1.below hb2;have hKeep := hT2.chg;clear hb2;go_wp2_with fail;refine hK.out _ _ (by (try dsimp only); exact hKeep) (fun hHeld => ?_); clear hK K hKeep; try simp only [pqZ]
 refine rdZ 7 27 rfl (by kernel_rfl) (fun K hK => ?_);have hHd := hHeld;obtain ⟨p0, p1, pl⟩ := HF5.out _ (hHd);have hal7 := since_alloc (Below.refl _ y2) (.cells (strs [wordB z0, Lib.itoa z1]).toArray 9);have hT3 := hT2.below hal7;have hKeep : Chg g none Y (y2.alloc (.cells #[.string (S8 (wordB z0)), .string (S8 (Lib.itoa z1))] 9)) := hT3.chg;clear hal7
 go_simp
 refine hK.out _ _ (by (try dsimp only); exact hKeep) (fun hHeld => ?_); clear hK K hKeep; try simp only [pqZ]
 refine rdZ 8 28 rfl (by kernel_rfl) (fun K hK => ?_)
 go_simp
 refine (tadd b g none 0 [] (some ⟨y2.heap.size, 0, none⟩) 2 [wordB z0, Lib.itoa z1] (y2.alloc (.cells (strs [wordB z0, Lib.itoa z1]).toArray 9)) hT3.s (Nat.le_trans HBY.out hT3.chg.size) (by simp) (Sl.new_ _ _ _)).mono ?_;rintro e y3 ⟨rfl, A2, c2, hT⟩;have hT4 := hT3.trans hT;have hKeep : Chg g none Y y3 := hT4.chg;clear hT;go_wp2_with fail;refine hK.out _ _ (by (try dsimp only); exact hKeep) (fun hHeld => ?_); clear hK K hKeep; try simp only [pqZ]
 refine wpAnyH_done (by kernel_rfl) ?_ _;have HTB := hJz hT4;have HKB := HKY;clear hT1 hT2 hT3 hT4 HWD HSM HF5 hHeld HT0;have hCB4 := (HKB.out _ HTB.out.chg).1;obtain ⟨c0, f0⟩ := hCB4.got (o := 0) (by decide);rw [HZ0.out] at c0;have hlt4 := hCB4.lt;rw [List.nil_append] at HTB;go_wp2_with fail;refine (HF.out _).mono ?_;rintro e v4 ⟨rfl, hb4⟩;obtain ⟨L, hL⟩ : ∃ L, fldL z0 = L := ⟨_, rfl⟩;rw [hL] at HLOW HENC HLEN hL5 HMEM ⊢
 have HMEM : Hid (∀ f ∈ L, f ≠ 78 → 0 < (slotL f).length) := hJz fun f hf h => by
  obtain ⟨k, hk, rfl⟩ := List.mem_iff_getElem.1 hf;exact HMEM.out k hk h
 have hW5 := HTB.out.below hb4;have hCB5 := hCB4.below hb4;have hB5 := (HKB.out _ hW5.chg).2;have hS5 := hW5.s;clear hb4 HF hL c0 f0 hCB4 hlt4;obtain ⟨IT, hIT⟩ : ∃ IT, v4.heap.size = IT := ⟨_, rfl⟩;have hI6 : (v4.iter (bs8 L) 0).heap[IT]? = some (.stringIter (bs8 L) 0) := by rw [← hIT]; exact World.iter_heap v4 _ _
 have hA6 : Below v4.heap.size v4 (v4.iter (bs8 L) 0) := since_alloc (Below.refl _ v4) _;obtain ⟨R0, hR0⟩ : ∃ R0, obS A2 [wordB z0, Lib.itoa z1] c2 = R0 := ⟨_, rfl⟩
 have hW6 : Tt b g R0 A2 c2 [wordB z0, Lib.itoa z1] v4 (v4.iter (bs8 L) 0) := by
  rw [← hR0];exact (Tt.refl hS5).below hA6
 have HKEEP : Hid (∀ V, Chg g R0 v4 V → CB V b Z v ∧ Below b w V) := hJz fun V hC => by
  rw [← hR0] at hC;exact ⟨hS5.keepC hC hCB5, hB5.trans (hS5.old (Nat.le_of_lt hCB5.lt) hC)⟩
 have HITG : Hid (v4.heap.size ≤ IT) := hJz (by omega);have HITE := hJz hIT;clear hIT hA6 hR0 hCB5 hB5 hS5 hW5 HTB HKB HKY HEV HBY;go_wp2_with fail;rw [HITE.out];generalize v4.iter (bs8 L) 0 = W7 at *;go_loopw [7] (fun _ wr => ∃ (k : Nat) (A2 : Option Addr) (c2 : Nat), k ≤ L.length ∧ wr.heap[IT]? = some (.stringIter (bs8 L) k) ∧ Tt b g R0 A2 c2 ([wordB z0, Lib.itoa z1] ++ (L.take k).flatMap (fldW Z nums)) v4 wr) (fun _ wr => L.length - wr.iterPos IT)
 case atStart => exact ⟨0, A2, c2, by omega, hI6, by simpa using hW6⟩
 case round =>
  clear hI6 hW6;obtain ⟨k, A2, c2, hk, hI, hW⟩ := hrel;have HPOS := hJz (iter_pos hI)
  by_cases hkl : k < L.length
  ·have hnx := next_at L HLOW.out wr IT k hI hkl;have hmem := List.getElem_mem hkl;obtain ⟨f, hf⟩ : ∃ f, L[k] = f := ⟨_, rfl⟩
   have hT1 : ([wordB z0, Lib.itoa z1] ++ (L.take (k + 1)).flatMap (fldW Z nums)) = ([wordB z0, Lib.itoa z1] ++ (L.take k).flatMap (fldW Z nums)) ++ fldW Z nums f := by
    rw [take_snoc L k hkl, hf];simp
   have hBL := (HLEN.out k).1;obtain ⟨B2, hB2e⟩ : ∃ B2, ([wordB z0, Lib.itoa z1] ++ (L.take k).flatMap (fldW Z nums)) = B2 := ⟨_, rfl⟩;rw [hB2e] at hT1 hW hBL;have HT1 := hJz hT1.symm;have hI2 := Lib.iterAt_heap wr IT (bs8 L) k (k + 1) hI;have hW2 := hW.iterAt hI HITG.out (k + 1);obtain ⟨hCB2, hB2⟩ := HKEEP.out _ hW2.chg;have HSL := hJz (fun V hV => slotsR_any b f V hV);rw [hf] at hnx hmem;have HB2 : Hid (B2.length ≤ 5002) := hJz hBL;clear hI hW hT1 hB2e hf hBL
   by_cases h78 : f = 78
   ·have hne : ((f : Int) == 78) = true := by rw [beq_iff_eq]; omega
    -- the numbers, one by one
    obtain ⟨cv, fv⟩ := hCB2.gotV;rw [HV0.out] at cv;have hbl := hCB2.lt;have hEw : fldW Z nums f = nums.map Lib.itoa := by unfold fldW; rw [if_pos h78]
    have HT3 : Hid (B2 ++ nums.map Lib.itoa = ([wordB z0, Lib.itoa z1] ++ (L.take (k + 1)).flatMap (fldW Z nums))) := hJz (by rw [← HT1.out, hEw])
    have HK2 : Hid (∀ V, Chg g (obS A2 B2 c2) (wr.iterAt IT (bs8 L) (k + 1)) V → CB V b Z v ∧ V.heap[IT]? = some (.stringIter (bs8 L) (k + 1)) ∧ Below b w V) := hJz fun V hC =>
     ⟨hW2.s.keepC hC hCB2, hW2.s.keepI hC hI2, hB2.trans (hW2.s.old (Nat.le_of_lt hCB2.lt) hC)⟩
    have HW2 := hJz hW2;clear h78 hEw hCB2 hI2 hB2 hW2;go_upto_region 11 with fail;clear hne hnx;generalize wr.iterAt IT (bs8 L) (k + 1) = wi at *;clear cv fv hbl;go_loopw [41] (fun iv wr => ∃ (j : Nat) (A4 : Option Addr) (c4 : Nat), j ≤ nums.length ∧ iv = .int .i64 (j : Int) ∧ Tt b g (obS A2 B2 c2) A4 c4 (B2 ++ (nums.take j).map Lib.itoa) wi wr) (fun iv _ => nums.length - (intOf iv).toNat)
    case atStart => exact ⟨0, A2, c2, by omega, rfl, by simpa using Tt.refl HW2.out.s⟩
    case round =>
     obtain ⟨j, A4, c4, hj1, rfl, hW4⟩ := hrel
     by_cases hj : j < nums.length
     ·have hjl : (j : Int) < (nums.length : Int) := by omega
      have hj0 : (0 : Int) ≤ (j : Int) := by omega
      obtain ⟨hC, hI, hB⟩ := HK2.out wr hW4.chg;obtain ⟨b2, o2, hA2, c0⟩ := (HSN.out wr hB).int hj;have hn6 := H6.out _ (List.getElem_mem hj);have hTJ : (nums.take (j + 1)).map Lib.itoa = (nums.take j).map Lib.itoa ++ [Lib.itoa nums[j]] := by rw [take_snoc nums j hj, List.map_append]; rfl
      obtain ⟨x, hx⟩ : ∃ x, nums[j] = x := ⟨_, rfl⟩;rw [hx] at c0 hn6 hTJ;have HNM := hJz (fun V (h : Ev V) => wnum x hn6 V h);have HTJ := hJz hTJ;have HBB := hJz hB
      have hlen4 : (B2 ++ (nums.take j).map Lib.itoa).length ≤ 10000 := by
       rw [List.length_append, List.length_map, List.length_take];have := HB2.out;omega
      obtain ⟨B4, hB4⟩ : ∃ B4, B2 ++ (nums.take j).map Lib.itoa = B4 := ⟨_, rfl⟩;have HB4E := hJz hB4;rw [hB4] at hW4 hlen4;have HL4 := hJz hlen4;have HW4 := hJz hW4;have hEv : Ev wr := HE.out wr hB;have HEv := hJz hEv;have HIk := hJz (Nat.le_of_lt hC.lt);subst hA2;clear hx hn6 hTJ hC hI hB hB4 hlen4 hW4 hEv;go_wp2_with fail;refine (HNM.out _ HEv.out).mono ?_;rintro e y1 ⟨rfl, hb1⟩;have hT5 := HW4.out.below hb1;have hal := since_alloc (Below.refl _ y1) (.cells #[.string (S8 (Lib.itoa x))] 9);have hT6 := hT5.below hal;have HAD := hJz (tadd b g A4 c4 B4 (some ⟨y1.heap.size, 0, none⟩) 1 [Lib.itoa x] (y1.alloc (.cells #[.string (S8 (Lib.itoa x))] 9)) hT6.s (Nat.le_trans HIk.out (Nat.le_trans hb1.size hal.size)) (by have := HL4.out; simp; omega) (Sl.new_ _ _ _));have HT6 := hJz hT6;clear hb1 hT5 hal hT6 HNM;go_wp2_with fail;refine HAD.out.mono ?_;rintro e y3 ⟨rfl, A5, c5, hT⟩;have hT7 := HT6.out.trans hT;have hT8 : B4 ++ [Lib.itoa x] = B2 ++ (nums.take (j + 1)).map Lib.itoa := by rw [← HB4E.out, HTJ.out, List.append_assoc]
      rw [hT8] at hT7;clear hT HAD c0;go_wp2_with fail;go_roundw
      case rel => exact ⟨j + 1, A5, c5, by omega, by go_num, hT7⟩
      case measure => simp [intOf]; omega
     ·obtain rfl : j = nums.length := by omega
      rw [List.take_length, HT3.out] at hW4;obtain ⟨hC, hI, hB⟩ := HK2.out wr (by have := hW4.chg; exact this);have hpos := iter_pos hI;have hWN := HW2.out.trans hW4;clear hW4 hC hB;go_wp2_with fail;go_roundw
      case rel => exact ⟨k + 1, A4, c4, by omega, hI, hWN⟩
      case measure =>
       rw [hpos];have := HPOS.out;omega
   ·have hne : ((f : Int) == 78) = false := by rw [beq_eq_false_iff_ne]; omega
    -- the slots of a letter
    have hEw : fldW Z nums f = [Lib.join ((slotL f).map fun s => Lib.itoa (Z.getD s.1 0)) [46]] := by unfold fldW; rw [if_neg h78]
    have HT3 : Hid (B2 ++ [Lib.join ((slotL f).map fun s => Lib.itoa (Z.getD s.1 0)) [46]] = ([wordB z0, Lib.itoa z1] ++ (L.take (k + 1)).flatMap (fldW Z nums))) := hJz (by rw [← HT1.out, hEw]);have HPOSL := hJz (HMEM.out f hmem h78);have hltc := hCB2.lt;clear h78 hEw;go_upto_region 16 with fail;clear hne hnx;generalize wr.iterAt IT (bs8 L) (k + 1) = wi at *;go_wp2_with fail;refine (HSL.out _ hltc).mono ?_;rintro e w3 ⟨⟨A3, cap3, rfl, hR3⟩, hb3⟩;have hCB3 := hCB2.below hb3;have hI3 := iter_keep hI2 hb3;have hB3 := hB2.trans (hb3.mono (Nat.le_of_lt hCB2.lt));have hW3 := hW2.below hb3;obtain ⟨WP, hWP⟩ : ∃ WP, w3.heap.size = WP := ⟨_, rfl⟩;have HWPE := hJz hWP
    have HK3 : Hid (∀ V, Below WP w3 V → CB V b Z v ∧ V.heap[IT]? = some (.stringIter (bs8 L) (k + 1)) ∧ SR V A3 b f ∧ Below b w V ∧ Tt b g R0 A2 c2 B2 v4 V ∧ WP ≤ V.heap.size) := hJz fun V hV => by
     have hV2 : Below w3.heap.size w3 V := by rw [hWP]; exact hV
     exact ⟨hCB3.below hV2, iter_keep hI3 hV2, hR3.below hV2, hB3.trans (hV2.mono (Nat.le_of_lt hCB3.lt)), hW3.below hV2, by have := hV2.size; omega⟩
    have HWPG : Hid (b ≤ WP) := hJz (by rw [← hWP]; exact Nat.le_of_lt hCB3.lt);clear hCB2 hI2 hB2 hW2 hb3 hCB3 hI3 hB3 hW3 hR3 HSL hltc hWP;go_wp2_with fail;go_loopw [10, 54] (fun pv iv wr => ∃ (j : Nat) (A4 : Option Addr) (c4 : Nat) (P : List (List UInt8)), j ≤ (slotL f).length ∧ iv = .int .i64 (j : Int) ∧ P = ((slotL f).take j).map (fun s => Lib.itoa (Z.getD s.1 0)) ∧ pv = .slice A4 P.length c4 ∧ wr.ownsRow WP 9 1 (.slice A4 P.length c4) P.length (strs P) ∧ Below WP w3 wr) (fun _ iv _ => (slotL f).length - (intOf iv).toNat)
    case atStart => exact ⟨0, none, 0, [], by omega, rfl, rfl, rfl, own_nil _ _ _, Below.refl _ _⟩
    case round =>
     obtain ⟨j, A4, c4, P, hj1, rfl, hP, rfl, hown, hB⟩ := hrel;have hPl : P.length = j := by rw [hP, List.length_map, List.length_take]; omega
     by_cases hj : j < (slotL f).length
     ·have hjl : (j : Int) < ((slotL f).length : Int) := by omega
      have hj2 := slotL_twoW f;have hj0 : (0 : Int) ≤ (j : Int) := by omega
      obtain ⟨hC, hI, hR, hBB, hTt, hsz⟩ := HK3.out wr hB;obtain ⟨b2, o2, rfl, c0, c1, cc⟩ := slots_at hR.sl hj;have hTJ : ((slotL f).take (j + 1)).map (fun s => Lib.itoa (Z.getD s.1 0)) = P ++ [Lib.itoa (Z.getD (slotL f)[j].1 0)] := by rw [take_snoc _ j hj, List.map_append, ← hP]; rfl
      obtain ⟨s, hs⟩ : ∃ s, (slotL f)[j] = s := ⟨_, rfl⟩;have hs13 : s.1 < 13 := by rw [← hs]; exact (slotL_low f _ (List.getElem_mem hj)).2
      rw [hs] at c0 c1 cc hTJ;obtain ⟨x, hx⟩ : ∃ x, Z.getD s.1 0 = x := ⟨_, rfl⟩;have hx6 : In64p x := by rw [← hx]; exact HZ6.out _
      rw [hx] at hTJ;have hPl4 : P.length ≤ 4 := by omega
      have hal := since_alloc (Below.refl _ wr) (.cells #[.pointer (sp b s), .int .i64 (sm s), .pointer (sq b s)] 79);have hbx := heap_alloc_new wr (.cells #[.pointer (sp b s), .int .i64 (sm s), .pointer (sq b s)] 79);obtain ⟨SZ, hSZ⟩ : ∃ SZ, wr.heap.size = SZ := ⟨_, rfl⟩;obtain ⟨WR, hWR⟩ : ∃ WR, wr.alloc (.cells #[.pointer (sp b s), .int .i64 (sm s), .pointer (sq b s)] 79) = WR := ⟨_, rfl⟩;have hCW := hC.below hal;have hoW := own_below hown hal;have hBW := hB.trans (hal.mono hsz);have HVA := hJz (value_any b Z v s (wr.alloc (.cells #[.pointer (sp b s), .int .i64 (sm s), .pointer (sq b s)] 79)) hCW hs13);rw [hx] at HVA;rw [hWR] at hbx hal hCW hoW hBW HVA;rw [hSZ] at hbx;have d0 : WR.cell? ⟨SZ, 0, none⟩ = some (.pointer (sp b s)) := (cell_of_row WR SZ 0 _ _ (0, 0) hbx).trans rfl;have d1 : WR.cell? ⟨SZ, 1, none⟩ = some (.int .i64 (sm s)) := (cell_of_row WR SZ 1 _ _ (0, 0) hbx).trans rfl;have d2 : WR.cell? ⟨SZ, 2, none⟩ = some (.pointer (sq b s)) := (cell_of_row WR SZ 2 _ _ (0, 0) hbx).trans rfl;have dl := (Array.getElem?_eq_some_iff.1 hbx).1;have HWR := hJz hWR;have HSZ := hJz hSZ;have HNM := hJz (fun V (h : Ev V) => wnum x hx6 V h);have HTJ := hJz hTJ;have HOW := hJz hoW;have HBW2 := hJz hBW;have HSZP : Hid (WP ≤ WR.heap.size) := hJz (Nat.le_trans hsz hal.size);clear hs hx hx6 hTJ hC hI hR hBB hTt hsz hal hbx hSZ hWR hCW hoW hBW hP hown hB hPl;go_upto_region 19 with fail;rw [HWR.out, HSZ.out];clear c0 c1 cc;go_wp2_with fail;refine HVA.out.mono ?_;rintro e y1 ⟨rfl, hb1⟩;have hB1 := HBW2.out.trans (hb1.mono HSZP.out);have hEv := HE.out y1 (HK3.out y1 hB1).2.2.2.1;have HB1 := hJz hB1;have HO1 := hJz (own_below HOW.out hb1);have HEv := hJz hEv;clear hb1 hB1 hEv d0 d1 d2 dl HVA;go_wp2_with fail;refine (HNM.out _ HEv.out).mono ?_;rintro e y2 ⟨rfl, hb2⟩;have hszy := (HK3.out y1 HB1.out).2.2.2.2.2;have hB2 := HB1.out.trans (hb2.mono hszy);have HO2 := hJz ((own_below HO1.out hb2).alloc (.cells #[.string (S8 (Lib.itoa x))] 9));have hszy2 := (HK3.out y2 hB2).2.2.2.2.2;have hal2 := since_alloc (Below.refl _ y2) (.cells #[.string (S8 (Lib.itoa x))] 9);have HB2 := hJz (hB2.trans (hal2.mono hszy2));have HZ2 : Hid (WP ≤ y2.heap.size + 1) := hJz (by omega);clear hb2 hszy hB2 hszy2 hal2 HNM
      go_wp2_with (first
       | (at_builtin; refine wpList_app rfl (.tmp 58) (.tmp 62) rfl EStr rfl rfl HO2.out (m := 1) (news := [.string (S8 (Lib.itoa x))]) rfl (Sl.new_ _ _ _) (fun u hu => by simp only [List.mem_cons, List.not_mem_nil, or_false] at hu; subst hu; rfl) (by unfold maxLen; omega) (by omega) (by simp only [World.size_alloc]; exact HZ2.out) ?_; intro A7 c7 w7 own7 hg7 hb7)
       | fail)
      have hB7 := HB2.out.trans hb7;have hl7 : P.length + 1 = (P ++ [Lib.itoa x]).length := by rw [List.length_append]; rfl
      go_roundw
      case rel =>
       refine ⟨j + 1, A7, c7, P ++ [Lib.itoa x], by omega, by go_num, HTJ.out.symm, by rw [hl7], ?_, hB7⟩;rw [← hl7, strs_app];exact own7
      case measure => simp [intOf]; omega
     ·obtain rfl : j = (slotL f).length := by omega
      rw [List.take_length] at hP;obtain ⟨hC, hI, hR, hBB, hTt, hsz⟩ := HK3.out wr hB;have hne : P ≠ [] := fun e => by rw [e] at hPl; have := HPOSL.out; simp at hPl; omega
      have hj2 := slotL_twoW f
      have hm : ∀ y ∈ P, y.length ≤ 21 := fun y hy => by
       rw [hP] at hy;obtain ⟨s, _, rfl⟩ := List.mem_map.1 hy;exact itoa_len _ (HZ6.out _)
      have hjl := join_le P [46] hm
      have hJl : (Lib.join P [46]).length ≤ 100 := by
       have : (21 + ([46] : List UInt8).length) * P.length ≤ 22 * 2 := Nat.mul_le_mul (by simp) (by omega);omega
      have HJ := hJz (wjoin A4 c4 P [46] wr (Sl.of_own hown) (own_le hown) (by omega) hne (by omega));have hpt : S8 [46] = (⟨#[46]⟩ : ByteArray) := rfl;rw [hpt] at HJ;rw [← hP] at HT3;obtain ⟨J, hJ⟩ : ∃ J, Lib.join P [46] = J := ⟨_, rfl⟩;rw [hJ] at HJ HT3;have HTT := hJz hTt;have HII := hJz hI;have HK5 : Hid (∀ V, Chg g (obS A2 B2 c2) wr V → V.heap[IT]? = some (.stringIter (bs8 L) (k + 1))) := hJz fun V hC => hTt.s.keepI hC hI;have HCBL := hJz (Nat.le_of_lt hC.lt);clear hC hI hR hBB hTt hsz hne hm hjl hJl hpt hJ hP hPl hown hB hj;go_wp2_with fail;refine HJ.out.mono ?_;rintro e y1 ⟨rfl, hb1⟩;have hT5 := HTT.out.below hb1;have hal := since_alloc (Below.refl _ y1) (.cells #[.string (S8 J)] 9);have hT6 := hT5.below hal;have hI6 := iter_keep HII.out (since_step hb1 hal);have HAD := hJz (tadd b g A2 c2 B2 (some ⟨y1.heap.size, 0, none⟩) 1 [J] (y1.alloc (.cells #[.string (S8 J)] 9)) hT6.s (Nat.le_trans HCBL.out (Nat.le_trans hb1.size hal.size)) (by have := HB2.out; simp; omega) (Sl.new_ _ _ _));have HT6 := hJz hT6;have HI6 := hJz hI6;clear hb1 hT5 hal hT6 hI6 HJ;go_wp2_with fail;refine HAD.out.mono ?_;rintro e y3 ⟨rfl, A5, c5, hT⟩;have hI9 := HT6.out.s.keepI hT.chg HI6.out;have hT7 := HT6.out.trans hT;rw [HT3.out] at hT7;have hpos := iter_pos hI9;clear hT HAD;go_wp2_with fail;go_roundw
      case rel => exact ⟨k + 1, A5, c5, by omega, hI9, hT7⟩
      case measure =>
       rw [hpos];have := HPOS.out;omega
  ·have hnx := next_end L wr IT k hI hkl;obtain rfl : k = L.length := by omega
   rw [List.take_length] at hW;obtain ⟨hC, hB⟩ := HKEEP.out wr hW.chg;obtain ⟨hBL, hBM⟩ := HLEN.out L.length;rw [List.take_length] at hBL hBM;rw [← HENC.out] at hW hBL hBM;have hjl := join_le (lineW Z nums) [32] hBM
   have hJl : (Lib.join (lineW Z nums) [32]).length ≤ 1000000 := by
    have : (44 + ([32] : List UInt8).length) * (lineW Z nums).length ≤ 45 * 5002 := Nat.mul_le_mul (by simp) hBL;omega
   have HD := hJz (wline b g A2 c2 (lineW Z nums) wr hW.s (by omega) (by unfold lineW; simp) (by omega));have hbl := hC.lt;obtain ⟨J, hJ⟩ : ∃ J, Lib.join (lineW Z nums) [32] = J := ⟨_, rfl⟩;rw [hJ] at HD;have HJE : Hid (lineB Z nums = J) := hJz (by rw [HLB.out, hJ]);clear hW hC hI HPOS HKEEP HLEN hjl hJl hBL hBM hJ;go_wp2_with fail;refine HD.out.mono ?_;rintro e v9 ⟨rfl, hb9⟩;have hB9 := hB.trans (hb9.mono (Nat.le_of_lt hbl));clear hnx HD;go_wp2_with fail;go_ret2;exact ⟨by rw [HJE.out]; rfl, hB9⟩
end
end Go.Proofs.YtpmnjojednbnpaaGreatDoor
