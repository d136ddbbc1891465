import Derived.Test.YtpmnjojednbnpaaGreatDoorWf24
import Derived.Test.YtpmnjojednbnpaaGreatDoorWf25
import Derived.Test.YtpmnjojednbnpaaGreatDoorWf26
set_option maxHeartbeats 16000000
set_option maxRecDepth 100000
set_option linter.unusedVariables false
set_option linter.unusedSimpArgs false
namespace Go.Proofs.YtpmnjojednbnpaaGreatDoor
open Go.ChangeShapes Go.WideShapes Go.ChangeAt Go.RowKit
section
theorem lineT_lw {z nums : List Int} (hz : ∀ i, In64p (z.getD i 0)) (h6 : ∀ x ∈ nums, In64p x) (hn : nums.length ≤ 1000) (a b : List UInt8) (ha : a.length ≤ 44) (hb : b.length ≤ 44) (L : List Nat) (hL : L.length ≤ 5) : Lw 6000 (a :: b :: L.flatMap (fldW z nums)) := by
 obtain ⟨h1, h2⟩ := flatW_len hz h6 hn L;have h3 : 1000 * L.length ≤ 1000 * 5 := Nat.mul_le_mul_left _ hL;refine ⟨by simp only [List.length_cons]; omega, fun x hx => ?_⟩
 rcases List.mem_cons.1 hx with rfl | hx
 ·exact ha
 ·rcases List.mem_cons.1 hx with rfl | hx
  ·exact hb
  ·exact h1 x hx
theorem Lw.takeMore {n k : Nat} {A : List (List UInt8)} {M : List Int} (h : Lw n A) (hM : ∀ x ∈ M, In64p x) (hl : M.length ≤ 1000) : Lw (n + 1000) (A ++ (M.take k).map Lib.itoa) := by
 refine h.app ⟨by rw [List.length_map, List.length_take]; omega, fun x hx => ?_⟩;obtain ⟨y, hy, rfl⟩ := List.mem_map.1 hx;have := itoa_len y (hM y (List.mem_of_mem_take hy));omega
def lineA (z nums : List Int) : Ending := .returned (.tuple (if okZ z nums.length = true then #[.string (S8 (lineB z nums)), .int .i64 0] else #[.string (S8 []), .int .i64 3]))
theorem rlineE (z0 z1 z2 z3 z4 z5 z6 z7 z8 z9 z10 z11 z12 : Int) (A : Option Addr) (cap : Nat) (nums : List Int) (w : World) (hn : nums.length ≤ 1000) (h6z : ∀ i, In64p (([z0, z1, z2, z3, z4, z5, z6, z7, z8, z9, z10, z11, z12] : List Int).getD i 0)) (h6 : ∀ x ∈ nums, In64p x) (hs : Sl w A (ints .i64 nums)) :
  Calls Tryz.prog 9 #[.agg #[.int .i64 z0, .int .i64 z1, .int .i64 z2, .int .i64 z3, .int .i64 z4, .int .i64 z5, .int .i64 z6, .int .i64 z7, .int .i64 z8, .int .i64 z9, .int .i64 z10, .int .i64 z11, .int .i64 z12, .slice A nums.length cap]] w fun e w' => e = lineA [z0, z1, z2, z3, z4, z5, z6, z7, z8, z9, z10, z11, z12] nums ∧ Below w.heap.size w w' := by
 have hx0 := heap_alloc_new w (.cells #[.int .i64 z0, .int .i64 z1, .int .i64 z2, .int .i64 z3, .int .i64 z4, .int .i64 z5, .int .i64 z6, .int .i64 z7, .int .i64 z8, .int .i64 z9, .int .i64 z10, .int .i64 z11, .int .i64 z12, .slice A nums.length cap] 26);have hB0 : Below w.heap.size w (w.alloc (.cells #[.int .i64 z0, .int .i64 z1, .int .i64 z2, .int .i64 z3, .int .i64 z4, .int .i64 z5, .int .i64 z6, .int .i64 z7, .int .i64 z8, .int .i64 z9, .int .i64 z10, .int .i64 z11, .int .i64 z12, .slice A nums.length cap] 26)) := since_alloc (Below.refl _ w) _;have HCK := hJz (ris34E z0 z1 z2 z3 z4 z5 z6 z7 z8 z9 z10 z11 z12 A nums.length cap (w.alloc (.cells #[.int .i64 z0, .int .i64 z1, .int .i64 z2, .int .i64 z3, .int .i64 z4, .int .i64 z5, .int .i64 z6, .int .i64 z7, .int .i64 z8, .int .i64 z9, .int .i64 z10, .int .i64 z11, .int .i64 z12, .slice A nums.length cap] 26)) (by unfold maxLen; omega));obtain ⟨b, hb⟩ : ∃ b, w.heap.size = b := ⟨_, rfl⟩;have HBW := hJz hb;have HSN : Hid (∀ V, Below b w V → Sl V A (ints .i64 nums)) := hJz fun V hV => hs.below (by rw [hb]; exact hV);rw [hb] at hx0 hB0 ⊢;obtain ⟨W1, hW1⟩ : ∃ W1, w.alloc (.cells #[.int .i64 z0, .int .i64 z1, .int .i64 z2, .int .i64 z3, .int .i64 z4, .int .i64 z5, .int .i64 z6, .int .i64 z7, .int .i64 z8, .int .i64 z9, .int .i64 z10, .int .i64 z11, .int .i64 z12, .slice A nums.length cap] 26) = W1 := ⟨_, rfl⟩;rw [hW1] at hx0 hB0 HCK;have HW1 := hJz hW1;have hlt0 := (Array.getElem?_eq_some_iff.1 hx0).1;have HKY : Hid (∀ V, Below W1.heap.size W1 V → V.heap[b]? = some (.cells #[.int .i64 z0, .int .i64 z1, .int .i64 z2, .int .i64 z3, .int .i64 z4, .int .i64 z5, .int .i64 z6, .int .i64 z7, .int .i64 z8, .int .i64 z9, .int .i64 z10, .int .i64 z11, .int .i64 z12, .slice A nums.length cap] 26 (0, 0)) ∧ Below b w V) := hJz fun V hV => ⟨(hV.block b hlt0).trans hx0, hB0.trans (hV.mono (Nat.le_of_lt hlt0))⟩
 have HCE : Hid (∀ V, Below W1.heap.size W1 V → V.cell? ⟨b, 0, none⟩ = some (.int .i64 z0) ∧ V.cell? ⟨b, 0 + 1, none⟩ = some (.int .i64 z1) ∧ V.cell? ⟨b, 0 + 2, none⟩ = some (.int .i64 z2) ∧ V.cell? ⟨b, 0 + 3, none⟩ = some (.int .i64 z3) ∧ V.cell? ⟨b, 0 + 4, none⟩ = some (.int .i64 z4) ∧ V.cell? ⟨b, 0 + 5, none⟩ = some (.int .i64 z5) ∧ V.cell? ⟨b, 0 + 6, none⟩ = some (.int .i64 z6) ∧ V.cell? ⟨b, 0 + 7, none⟩ = some (.int .i64 z7) ∧ V.cell? ⟨b, 0 + 8, none⟩ = some (.int .i64 z8) ∧ V.cell? ⟨b, 0 + 9, none⟩ = some (.int .i64 z9) ∧ V.cell? ⟨b, 0 + 10, none⟩ = some (.int .i64 z10) ∧ V.cell? ⟨b, 0 + 11, none⟩ = some (.int .i64 z11) ∧ V.cell? ⟨b, 0 + 12, none⟩ = some (.int .i64 z12) ∧ V.cell? ⟨b, 0 + 13, none⟩ = some (.slice A nums.length cap) ∧ b < V.heap.size) := hJz fun V hV => by
  have h := (HKY.out V hV).1;exact ⟨(cell_of_row V b 0 _ _ (0, 0) h).trans rfl, (cell_of_row V b 1 _ _ (0, 0) h).trans rfl, (cell_of_row V b 2 _ _ (0, 0) h).trans rfl, (cell_of_row V b 3 _ _ (0, 0) h).trans rfl, (cell_of_row V b 4 _ _ (0, 0) h).trans rfl, (cell_of_row V b 5 _ _ (0, 0) h).trans rfl, (cell_of_row V b 6 _ _ (0, 0) h).trans rfl, (cell_of_row V b 7 _ _ (0, 0) h).trans rfl, (cell_of_row V b 8 _ _ (0, 0) h).trans rfl, (cell_of_row V b 9 _ _ (0, 0) h).trans rfl, (cell_of_row V b 10 _ _ (0, 0) h).trans rfl, (cell_of_row V b 11 _ _ (0, 0) h).trans rfl, (cell_of_row V b 12 _ _ (0, 0) h).trans rfl, (cell_of_row V b 13 _ _ (0, 0) h).trans rfl, (Array.getElem?_eq_some_iff.1 h).1⟩
 have hZ0 : Hid (W1.heap.size = W1.heap.size) := hJz rfl;clear hb hs hx0 hB0 hlt0 hW1;unfold lineA;rw [← ok_isE] at HCK;by_cases hok : okZ [z0, z1, z2, z3, z4, z5, z6, z7, z8, z9, z10, z11, z12] nums.length = true
 case neg =>
  have hok : okZ [z0, z1, z2, z3, z4, z5, z6, z7, z8, z9, z10, z11, z12] nums.length = false := by simpa using hok
  simp only [hok, Bool.false_eq_true, if_false];rw [hok] at HCK;obtain ⟨k0, k1, k2, k3, k4, k5, k6, k7, k8, k9, k10, k11, k12, k13, kl⟩ := HCE.out W1 (Below.refl _ _);clear hok;go_enter Tryz.func9, Tryz.ntmps9;go_upto_region 1 with fail;rw [HW1.out, HBW.out];go_wp2_with fail;refine HCK.out.mono ?_;rintro e v1 ⟨rfl, hb1⟩;have hB1 := (HKY.out v1 hb1).2;go_wp2_with fail;go_ret2;exact ⟨rfl, hB1⟩
 simp only [hok, if_true];rw [hok] at HCK
 have hopr : 1 ≤ z0 ∧ z0 ≤ 31 := by
  simp only [okZ, Bool.and_eq_true, decide_eq_true_eq, List.getD_cons_zero] at hok;exact ⟨hok.1.1.1.1, hok.1.1.1.2.1⟩
 have hop0 := hopr.1;have hop1 := hopr.2;have h60 : In64p z0 := h6z 0;have h61 : In64p z1 := h6z 1;have h62 : In64p z2 := h6z 2;have h63 : In64p z3 := h6z 3;have h64 : In64p z4 := h6z 4;have h65 : In64p z5 := h6z 5;have h66 : In64p z6 := h6z 6;have h67 : In64p z7 := h6z 7;have h68 : In64p z8 := h6z 8;have h69 : In64p z9 := h6z 9;have h610 : In64p z10 := h6z 10;have h611 : In64p z11 := h6z 11;have h612 : In64p z12 := h6z 12;obtain ⟨Z, hZ⟩ : ∃ Z, Z = ([z0, z1, z2, z3, z4, z5, z6, z7, z8, z9, z10, z11, z12] : List Int) := ⟨_, rfl⟩;rw [← hZ] at h6z ⊢;have HL2 : Hid (lineB Z nums = Lib.join (wordB z0 :: Lib.itoa z1 :: (fldL z0).flatMap (fldW Z nums)) [32]) := hJz (by unfold lineB lineW; rw [hZ]; rfl);have HL5 := fldL_fiveW z0;have hw20 := wordB_len z0;have h1l := itoa_len z1 h61;have HLEN : Hid (∀ k, Lw 6000 (wordB z0 :: Lib.itoa z1 :: ((fldL z0).take k).flatMap (fldW Z nums))) := hJz fun k => lineT_lw h6z h6 hn _ _ (by omega) (by omega) _ (by rw [List.length_take]; omega);have HF := hJz (fun V => rfld_any z0 V);have HMEM := hJz (fldL_memW z0)
 have HAT : Hid (∀ k, (h : k < (bs8 (fldL z0)).size) → ∃ h2 : k < (fldL z0).length, ((bs8 (fldL z0))[k]'h).toNat = (fldL z0)[k]) := hJz fun k h => by
  have h2 : k < (fldL z0).length := by rw [bs8_size] at h; exact h
  exact ⟨h2, bs8_at h2 (by have := fldL_low z0 _ (List.getElem_mem h2); omega)⟩
 have HNL := hJz hn;have H6 := hJz h6;have HW77 := hJz (fun V => rnum40 z2 h62 V);have HE77 : Hid (fldW Z nums 77 = [Lib.itoa z2] ∧ (Lib.itoa z2).length ≤ 44) := hJz ⟨by rw [hZ]; simp [fldW, slotL, Lib.join_one], by have := itoa_len z2 h62; omega⟩;have HW85 := hJz (fun V => runit40 z3 z4 h63 h64 V);have HE85 : Hid (fldW Z nums 85 = [unitB z3 z4] ∧ (unitB z3 z4).length ≤ 44) := hJz ⟨by rw [hZ]; simp [fldW, slotL, join_two, unitB], by have := unitB_len h63 h64; omega⟩;have HW79 := hJz (fun V => runit40 z5 z6 h65 h66 V);have HE79 : Hid (fldW Z nums 79 = [unitB z5 z6] ∧ (unitB z5 z6).length ≤ 44) := hJz ⟨by rw [hZ]; simp [fldW, slotL, join_two, unitB], by have := unitB_len h65 h66; omega⟩;have HW73 := hJz (fun V => rnum40 z7 h67 V);have HE73 : Hid (fldW Z nums 73 = [Lib.itoa z7] ∧ (Lib.itoa z7).length ≤ 44) := hJz ⟨by rw [hZ]; simp [fldW, slotL, Lib.join_one], by have := itoa_len z7 h67; omega⟩;have HW65 := hJz (fun V => rnum40 z8 h68 V);have HE65 : Hid (fldW Z nums 65 = [Lib.itoa z8] ∧ (Lib.itoa z8).length ≤ 44) := hJz ⟨by rw [hZ]; simp [fldW, slotL, Lib.join_one], by have := itoa_len z8 h68; omega⟩;have HW84 := hJz (fun V => rnum40 z9 h69 V);have HE84 : Hid (fldW Z nums 84 = [Lib.itoa z9] ∧ (Lib.itoa z9).length ≤ 44) := hJz ⟨by rw [hZ]; simp [fldW, slotL, Lib.join_one], by have := itoa_len z9 h69; omega⟩;have HW68 := hJz (fun V => rnum40 z10 h610 V);have HE68 : Hid (fldW Z nums 68 = [Lib.itoa z10] ∧ (Lib.itoa z10).length ≤ 44) := hJz ⟨by rw [hZ]; simp [fldW, slotL, Lib.join_one], by have := itoa_len z10 h610; omega⟩;have HW81 := hJz (fun V => rnum40 z11 h611 V);have HE81 : Hid (fldW Z nums 81 = [Lib.itoa z11] ∧ (Lib.itoa z11).length ≤ 44) := hJz ⟨by rw [hZ]; simp [fldW, slotL, Lib.join_one], by have := itoa_len z11 h611; omega⟩;have HW80 := hJz (fun V => rnum40 z12 h612 V);have HE80 : Hid (fldW Z nums 80 = [Lib.itoa z12] ∧ (Lib.itoa z12).length ≤ 44) := hJz ⟨by rw [hZ]; simp [fldW, slotL, Lib.join_one], by have := itoa_len z12 h612; omega⟩;have HE78 : Hid (fldW Z nums 78 = nums.map Lib.itoa) := hJz (by unfold fldW; rw [if_pos rfl]);have HNB := hJz (fun V => rnum40 z1 h61 V);have HNR : Hid (∀ x ∈ nums, ∀ V, Calls Tryz.prog 35 #[.int .i64 x] V fun e w' => e = .returned (.string (S8 (Lib.itoa x))) ∧ Below V.heap.size V w') := hJz fun x hx V => rnum40 x (h6 x hx) V;have hop31 : (z0 - 1).toNat < 31 := by omega
 obtain ⟨t, ht⟩ : ∃ t : Nat, t = (z0 - 1).toNat := ⟨_, rfl⟩;have htI : z0 - 1 = (t : Int) := by omega
 have HCW : Hid (opsW.getD t [] = wordB z0) := hJz (by unfold wordB; rw [if_pos hopr, ht]);have ht31 : t < 31 := by omega
 have HTI := hJz htI;have hw1 : IntKind.i64.wrap (z0 - 1) = (t : Int) := by rw [IntWalk.i64_in _ (by omega), htI]
 have ht0 : (0 : Int) ≤ (t : Int) := by omega
 have ht3 : (t : Int) < 31 := by omega
 obtain ⟨WB, hWB⟩ : ∃ WB, wordB z0 = WB := ⟨_, rfl⟩;obtain ⟨N1, hN1⟩ : ∃ N1, Lib.itoa z1 = N1 := ⟨_, rfl⟩;rw [hWB] at HCW HL2 HLEN hw20;rw [hN1] at HNB HL2 HLEN h1l;obtain ⟨X1, hX1⟩ : ∃ X, WB ++ [32] = X := ⟨_, rfl⟩;obtain ⟨X2, hX2⟩ : ∃ X, X1 ++ N1 = X := ⟨_, rfl⟩;have lX1 : X1.length = WB.length + 1 := by rw [← hX1]; simp
 have ad0 : ∀ W, (Op.stringOp .add (S8 WB) (⟨#[32]⟩ : ByteArray)).run Tryz.prog W = .ok (.string (S8 X1)) W := by rw [← hX1]; exact add_strW WB [32] (by simp only [List.length_cons, List.length_nil]; omega)
 have ad1 : ∀ W, (Op.stringOp .add (S8 X1) (S8 N1)).run Tryz.prog W = .ok (.string (S8 X2)) W := by rw [← hX2]; exact add_strW X1 N1 (by omega)
 have HX2 : Hid (X2 = Lib.join (WB :: N1 :: []) [32]) := hJz (by rw [join_jn, ← hX2, ← hX1]; simp [jn]);clear hok hopr hZ h6z h6 hop31 ht htI hWB hN1 hX1 hX2 lX1 hw20 h1l;clear h60 h61 h62 h63 h64 h65 h66 h67 h68 h69 h610 h611 h612;obtain ⟨k0, k1, k2, k3, k4, k5, k6, k7, k8, k9, k10, k11, k12, k13, kl⟩ := HCE.out W1 (Below.refl _ _);go_enter Tryz.func9, Tryz.ntmps9;go_upto_region 1 with fail;rw [HW1.out, HBW.out];go_wp2_with fail;refine HCK.out.mono ?_;rintro e v1 ⟨rfl, hb1⟩;clear k0 k1 k2 k3 k4 k5 k6 k7 k8 k9 k10 k11 k12 k13 kl HCK HW1 HBW;obtain ⟨k0, k1, _, _, _, _, _, _, _, _, _, _, _, _, kl⟩ := HCE.out v1 hb1;have HB1 := hJz hb1;have hBD : Below W1.heap.size W1 v1.drew := hb1.drew;clear hb1;go_upto_region 3 with fail;clear k0 k1 kl;refine wp_region_held_drew (S := (fun V => Below W1.heap.size W1 V)) (by kernel_rfl) (by exact hBD) (fun hHeld => ?_);refine tkI 1 13 rfl (by intro w hSw; obtain ⟨p0, p1, _, _, _, _, _, _, _, _, _, _, _, _, pl⟩ := HCE.out _ (hSw); go_simp <;> with_reducible rfl) hHeld ?_; simp only [pqZ];refine tkI 2 14 rfl (by intro w hSw; obtain ⟨p0, p1, _, _, _, _, _, _, _, _, _, _, _, _, pl⟩ := HCE.out _ (hSw); go_simp <;> with_reducible rfl) hHeld ?_; simp only [pqZ];refine tkI 3 15 rfl (by intro w hSw; obtain ⟨p0, p1, _, _, _, _, _, _, _, _, _, _, _, _, pl⟩ := HCE.out _ (hSw); go_simp <;> with_reducible rfl) hHeld ?_; simp only [pqZ];refine tkI 7 19 rfl (by intro w hSw; obtain ⟨p0, p1, _, _, _, _, _, _, _, _, _, _, _, _, pl⟩ := HCE.out _ (hSw); go_simp <;> with_reducible rfl) hHeld ?_; simp only [pqZ];refine tkI 8 20 rfl (by intro w hSw; obtain ⟨p0, p1, _, _, _, _, _, _, _, _, _, _, _, _, pl⟩ := HCE.out _ (hSw); go_simp <;> with_reducible rfl) hHeld ?_; simp only [pqZ];refine rdZ 0 12 rfl (by kernel_rfl) (fun K hK => ?_)
 go_simp
 refine (rnames40 _).mono ?_;rintro e y1 ⟨rfl, rfl⟩;have hal := since_alloc (Below.refl _ v1.drew) (.cells (strs opsW).toArray 9);have hKeep := since_step hBD hal;have hc5 : (v1.drew.alloc (.cells (strs opsW).toArray 9)).cell? ⟨v1.heap.size, t, none⟩ = some (.string (S8 WB)) := by rw [← HCW.out]; exact ops_cell v1.drew ht31
 have hl5 : v1.heap.size < (v1.drew.alloc (.cells (strs opsW).toArray 9)).heap.size := by rw [World.size_alloc]; exact Nat.lt_succ_self _
 generalize hgen : v1.drew.alloc (.cells (strs opsW).toArray 9) = y1 at *;clear hgen hal;go_wp2_with fail;refine hK.out _ _ (by (try dsimp only); exact hKeep) (fun hHeld => ?_); clear hK K hKeep; try simp only [pqZ]
 refine tkI 4 16 rfl (by intro w hSw; obtain ⟨p0, p1, _, _, _, _, _, _, _, _, _, _, _, _, pl⟩ := HCE.out _ (hSw); go_simp <;> with_reducible rfl) hHeld ?_; simp only [pqZ];refine wpAnyH_ready (rs := [5, 9]) (by kernel_rfl) (by simp) ?_
 refine AllReadyH.cons (o := ⟨some 17, _, _, _, _, _⟩) rfl (fun K hK => ?_) (AllReadyH.cons (o := ⟨some 21, _, _, _, _, _⟩) rfl (fun K hK => ?_) AllReadyH.nil)
 ·have hHd := hHeld;obtain ⟨p0, p1, _, _, _, _, _, _, _, _, _, _, _, _, pl⟩ := HCE.out _ (hHd);have hKeep := hHeld
  skip
  go_simp
  refine hK.out _ _ (by (try dsimp only); exact hKeep) (fun hHeld => ?_); clear hK K hKeep; try simp only [pqZ]
  refine tkI 6 18 rfl (by intro w hSw; obtain ⟨p0, p1, _, _, _, _, _, _, _, _, _, _, _, _, pl⟩ := HCE.out _ (hSw); go_simp <;> with_reducible rfl) hHeld ?_; simp only [pqZ];refine rdZ 9 21 rfl (by kernel_rfl) (fun K hK => ?_)
  go_simp
  refine (HNB.out _).mono ?_;rintro e y2 ⟨rfl, hb2⟩;have hKeep := since_step hHeld hb2;have hc6 := (hb2.cell (p := ⟨v1.heap.size, t, none⟩) hl5).trans hc5;have hl6 := Nat.lt_of_lt_of_le hl5 hb2.size;clear hb2;go_wp2_with fail;refine hK.out _ _ (by (try dsimp only); exact hKeep) (fun hHeld => ?_); clear hK K hKeep; try simp only [pqZ]
  refine tkI 10 22 rfl (by intro w hSw; obtain ⟨p0, p1, _, _, _, _, _, _, _, _, _, _, _, _, pl⟩ := HCE.out _ (hSw); go_simp <;> with_reducible rfl) hHeld ?_; simp only [pqZ];refine tkI 11 4 rfl (by intro w hSw; obtain ⟨p0, p1, _, _, _, _, _, _, _, _, _, _, _, _, pl⟩ := HCE.out _ (hSw); go_simp <;> with_reducible rfl) hHeld ?_; simp only [pqZ];refine wpAnyH_done (by kernel_rfl) ?_ _;have hH3 := hHeld;clear ad0 ad1 hw1 ht0 ht3 ht31 hHeld;have HH3 := hJz hH3;obtain ⟨k0, _, _, _, _, _, _, _, _, _, _, _, _, _, kl⟩ := HCE.out _ hH3;clear hH3;go_wp2_with fail;refine (HF.out _).mono ?_;rintro e v4 ⟨rfl, hb4⟩;have HB4 := hJz (since_step HH3.out hb4);clear hb4 k0 kl HF HH3;obtain ⟨L, hL⟩ : ∃ L, fldL z0 = L := ⟨_, rfl⟩;rw [hL] at HMEM HL2 HLEN HAT HL5 ⊢;have hsz := bs8_size L;obtain ⟨s, hs⟩ : ∃ s, bs8 L = s := ⟨_, rfl⟩;rw [hs] at HAT hsz ⊢;have HSZ := hJz hsz;have hs5 : s.size ≤ 5 := by omega
  clear hL hs hsz;go_wp2_with fail;go_loopw [4, 6] (fun sv iv wr => ∃ (k : Nat), k ≤ s.size ∧ iv = .int .i64 (k : Int) ∧ sv = .string (S8 (Lib.join (WB :: N1 :: (L.take k).flatMap (fldW Z nums)) [32])) ∧ Below W1.heap.size W1 wr) (fun _ iv _ => s.size - (intOf iv).toNat)
  case atStart => exact ⟨0, by omega, rfl, by rw [HX2.out]; rfl, HB4.out⟩
  case round =>
   clear HB4 HX2;obtain ⟨k, hk, rfl, rfl, hW4⟩ := hrel
   by_cases hkl : k < s.size
   ·have hk1 : (k : Int) < (s.size : Int) := by omega
    have hk0 : (0 : Int) ≤ (k : Int) := by omega
    obtain ⟨h2, hat⟩ := HAT.out k hkl;obtain ⟨f, hf⟩ : ∃ f, L[k] = f := ⟨_, rfl⟩;have hmem := HMEM.out _ (List.getElem_mem h2);have hTJ : WB :: N1 :: (L.take (k + 1)).flatMap (fldW Z nums) = (WB :: N1 :: (L.take k).flatMap (fldW Z nums)) ++ fldW Z nums f := by rw [take_snoc L k h2, List.flatMap_append, hf]; simp
    have hTl := join_len (HLEN.out k) (by omega);have HB4L := hJz (HLEN.out k);rw [hf] at hat hmem;obtain ⟨B4, hB4⟩ : ∃ B4, WB :: N1 :: (L.take k).flatMap (fldW Z nums) = B4 := ⟨_, rfl⟩;rw [hB4] at hTJ hTl HB4L ⊢;have hTN : B4 ≠ [] := by rw [← hB4]; simp
    have HTN := hJz hTN;have HTJ := hJz hTJ;obtain ⟨T, hT⟩ : ∃ T, Lib.join B4 [32] = T := ⟨_, rfl⟩;have HT := hJz hT;rw [hT] at hTl ⊢;have HW4 := hJz hW4;obtain ⟨k0, k1, k2, k3, k4, k5, k6, k7, k8, k9, k10, k11, k12, k13, kl⟩ := HCE.out wr hW4;clear hf hTJ hB4 hT hTN hW4 h2
    rcases hmem with rfl | rfl | rfl | rfl | rfl | rfl | rfl | rfl | rfl | rfl
    ·have hv : ((s[k].toNat : Nat) : Int) = 77 := by rw [hat]; rfl
     clear hat
     obtain ⟨he, hDl⟩ := HE77.out;have HWD := hJz HW77.out;obtain ⟨D, hD⟩ : ∃ D, Lib.itoa z2 = D := ⟨_, rfl⟩;rw [hD] at he hDl HWD;obtain ⟨X1, hX1⟩ : ∃ X, T ++ [32] = X := ⟨_, rfl⟩;obtain ⟨X2, hX2⟩ : ∃ X, X1 ++ D = X := ⟨_, rfl⟩;have lX1 : X1.length = T.length + 1 := by rw [← hX1]; simp
     have ad0 : ∀ W, (Op.stringOp .add (S8 T) (⟨#[32]⟩ : ByteArray)).run Tryz.prog W = .ok (.string (S8 X1)) W := by rw [← hX1]; exact add_strW T [32] (by simp only [List.length_cons, List.length_nil]; omega)
     have ad1 : ∀ W, (Op.stringOp .add (S8 X1) (S8 D)).run Tryz.prog W = .ok (.string (S8 X2)) W := by rw [← hX2]; exact add_strW X1 D (by omega)
     have HTX : Hid (Value.string (S8 X2) = .string (S8 (Lib.join (WB :: N1 :: (L.take (k + 1)).flatMap (fldW Z nums)) [32]))) := hJz (by
      rw [HTJ.out, join_more _ _ HTN.out, he, HT.out, ← hX2, ← hX1]; simp [jn])
     clear hD he hX1 hX2 lX1 hDl;go_wp2_with fail;refine (HWD.out _).mono ?_;rintro e y1 ⟨rfl, hb1⟩;have hWN := since_step HW4.out hb1;have HWN := hJz hWN;clear k0 k1 k2 k3 k4 k5 k6 k7 k8 k9 k10 k11 k12 k13 kl hb1;go_wp2_with fail;clear ad0 ad1;go_loopw [4, 8] (fun sv iv wr => sv = .string (S8 X2) ∧ iv = .int .i64 0 ∧ y1 = wr) (fun _ _ _ => 0)
     case atStart => exact ⟨rfl, rfl, rfl⟩
     case round =>
      obtain ⟨rfl, rfl, rfl⟩ := hrel;obtain ⟨_, _, _, _, _, _, _, _, _, _, _, _, _, k13, kl⟩ := HCE.out _ HWN.out
      by_cases h0 : 0 < nums.length
      ·have d1 : decide (0 < (nums.length : Int)) = true := decide_eq_true (by omega);clear hWN;go_wp2_with fail;go_roundw
       case rel => exact ⟨k + 1, by omega, by go_num, HTX.out, HWN.out⟩
       case measure => simp [intOf]; omega
      ·have d1 : decide (0 < (nums.length : Int)) = false := decide_eq_false (by omega);clear hWN;go_wp2_with fail;go_roundw
       case rel => exact ⟨k + 1, by omega, by go_num, HTX.out, HWN.out⟩
       case measure => simp [intOf]; omega
    ·have hv : ((s[k].toNat : Nat) : Int) = 85 := by rw [hat]; rfl
     clear hat
     obtain ⟨he, hDl⟩ := HE85.out;have HWD := hJz HW85.out;obtain ⟨D, hD⟩ : ∃ D, unitB z3 z4 = D := ⟨_, rfl⟩;rw [hD] at he hDl HWD;obtain ⟨X1, hX1⟩ : ∃ X, T ++ [32] = X := ⟨_, rfl⟩;obtain ⟨X2, hX2⟩ : ∃ X, X1 ++ D = X := ⟨_, rfl⟩;have lX1 : X1.length = T.length + 1 := by rw [← hX1]; simp
     have ad0 : ∀ W, (Op.stringOp .add (S8 T) (⟨#[32]⟩ : ByteArray)).run Tryz.prog W = .ok (.string (S8 X1)) W := by rw [← hX1]; exact add_strW T [32] (by simp only [List.length_cons, List.length_nil]; omega)
     have ad1 : ∀ W, (Op.stringOp .add (S8 X1) (S8 D)).run Tryz.prog W = .ok (.string (S8 X2)) W := by rw [← hX2]; exact add_strW X1 D (by omega)
     have HTX : Hid (Value.string (S8 X2) = .string (S8 (Lib.join (WB :: N1 :: (L.take (k + 1)).flatMap (fldW Z nums)) [32]))) := hJz (by
      rw [HTJ.out, join_more _ _ HTN.out, he, HT.out, ← hX2, ← hX1]; simp [jn])
     clear hD he hX1 hX2 lX1 hDl;go_wp2_with fail;refine (HWD.out _).mono ?_;rintro e y1 ⟨rfl, hb1⟩;have hWN := since_step HW4.out hb1;have HWN := hJz hWN;clear k0 k1 k2 k3 k4 k5 k6 k7 k8 k9 k10 k11 k12 k13 kl hb1;go_wp2_with fail;clear ad0 ad1;go_loopw [4, 8] (fun sv iv wr => sv = .string (S8 X2) ∧ iv = .int .i64 0 ∧ y1 = wr) (fun _ _ _ => 0)
     case atStart => exact ⟨rfl, rfl, rfl⟩
     case round =>
      obtain ⟨rfl, rfl, rfl⟩ := hrel;obtain ⟨_, _, _, _, _, _, _, _, _, _, _, _, _, k13, kl⟩ := HCE.out _ HWN.out
      by_cases h0 : 0 < nums.length
      ·have d1 : decide (0 < (nums.length : Int)) = true := decide_eq_true (by omega);clear hWN;go_wp2_with fail;go_roundw
       case rel => exact ⟨k + 1, by omega, by go_num, HTX.out, HWN.out⟩
       case measure => simp [intOf]; omega
      ·have d1 : decide (0 < (nums.length : Int)) = false := decide_eq_false (by omega);clear hWN;go_wp2_with fail;go_roundw
       case rel => exact ⟨k + 1, by omega, by go_num, HTX.out, HWN.out⟩
       case measure => simp [intOf]; omega
    ·have hv : ((s[k].toNat : Nat) : Int) = 79 := by rw [hat]; rfl
     clear hat
     obtain ⟨he, hDl⟩ := HE79.out;have HWD := hJz HW79.out;obtain ⟨D, hD⟩ : ∃ D, unitB z5 z6 = D := ⟨_, rfl⟩;rw [hD] at he hDl HWD;obtain ⟨X1, hX1⟩ : ∃ X, T ++ [32] = X := ⟨_, rfl⟩;obtain ⟨X2, hX2⟩ : ∃ X, X1 ++ D = X := ⟨_, rfl⟩;have lX1 : X1.length = T.length + 1 := by rw [← hX1]; simp
     have ad0 : ∀ W, (Op.stringOp .add (S8 T) (⟨#[32]⟩ : ByteArray)).run Tryz.prog W = .ok (.string (S8 X1)) W := by rw [← hX1]; exact add_strW T [32] (by simp only [List.length_cons, List.length_nil]; omega)
     have ad1 : ∀ W, (Op.stringOp .add (S8 X1) (S8 D)).run Tryz.prog W = .ok (.string (S8 X2)) W := by rw [← hX2]; exact add_strW X1 D (by omega)
     have HTX : Hid (Value.string (S8 X2) = .string (S8 (Lib.join (WB :: N1 :: (L.take (k + 1)).flatMap (fldW Z nums)) [32]))) := hJz (by
      rw [HTJ.out, join_more _ _ HTN.out, he, HT.out, ← hX2, ← hX1]; simp [jn])
     clear hD he hX1 hX2 lX1 hDl;go_wp2_with fail;refine (HWD.out _).mono ?_;rintro e y1 ⟨rfl, hb1⟩;have hWN := since_step HW4.out hb1;have HWN := hJz hWN;clear k0 k1 k2 k3 k4 k5 k6 k7 k8 k9 k10 k11 k12 k13 kl hb1;go_wp2_with fail;clear ad0 ad1;go_loopw [4, 8] (fun sv iv wr => sv = .string (S8 X2) ∧ iv = .int .i64 0 ∧ y1 = wr) (fun _ _ _ => 0)
     case atStart => exact ⟨rfl, rfl, rfl⟩
     case round =>
      obtain ⟨rfl, rfl, rfl⟩ := hrel;obtain ⟨_, _, _, _, _, _, _, _, _, _, _, _, _, k13, kl⟩ := HCE.out _ HWN.out
      by_cases h0 : 0 < nums.length
      ·have d1 : decide (0 < (nums.length : Int)) = true := decide_eq_true (by omega);clear hWN;go_wp2_with fail;go_roundw
       case rel => exact ⟨k + 1, by omega, by go_num, HTX.out, HWN.out⟩
       case measure => simp [intOf]; omega
      ·have d1 : decide (0 < (nums.length : Int)) = false := decide_eq_false (by omega);clear hWN;go_wp2_with fail;go_roundw
       case rel => exact ⟨k + 1, by omega, by go_num, HTX.out, HWN.out⟩
       case measure => simp [intOf]; omega
    ·have hv : ((s[k].toNat : Nat) : Int) = 73 := by rw [hat]; rfl
     clear hat
     obtain ⟨he, hDl⟩ := HE73.out;have HWD := hJz HW73.out;obtain ⟨D, hD⟩ : ∃ D, Lib.itoa z7 = D := ⟨_, rfl⟩;rw [hD] at he hDl HWD;obtain ⟨X1, hX1⟩ : ∃ X, T ++ [32] = X := ⟨_, rfl⟩;obtain ⟨X2, hX2⟩ : ∃ X, X1 ++ D = X := ⟨_, rfl⟩;have lX1 : X1.length = T.length + 1 := by rw [← hX1]; simp
     have ad0 : ∀ W, (Op.stringOp .add (S8 T) (⟨#[32]⟩ : ByteArray)).run Tryz.prog W = .ok (.string (S8 X1)) W := by rw [← hX1]; exact add_strW T [32] (by simp only [List.length_cons, List.length_nil]; omega)
     have ad1 : ∀ W, (Op.stringOp .add (S8 X1) (S8 D)).run Tryz.prog W = .ok (.string (S8 X2)) W := by rw [← hX2]; exact add_strW X1 D (by omega)
     have HTX : Hid (Value.string (S8 X2) = .string (S8 (Lib.join (WB :: N1 :: (L.take (k + 1)).flatMap (fldW Z nums)) [32]))) := hJz (by
      rw [HTJ.out, join_more _ _ HTN.out, he, HT.out, ← hX2, ← hX1]; simp [jn])
     clear hD he hX1 hX2 lX1 hDl;go_wp2_with fail;refine (HWD.out _).mono ?_;rintro e y1 ⟨rfl, hb1⟩;have hWN := since_step HW4.out hb1;have HWN := hJz hWN;clear k0 k1 k2 k3 k4 k5 k6 k7 k8 k9 k10 k11 k12 k13 kl hb1;go_wp2_with fail;clear ad0 ad1;go_loopw [4, 8] (fun sv iv wr => sv = .string (S8 X2) ∧ iv = .int .i64 0 ∧ y1 = wr) (fun _ _ _ => 0)
     case atStart => exact ⟨rfl, rfl, rfl⟩
     case round =>
      obtain ⟨rfl, rfl, rfl⟩ := hrel;obtain ⟨_, _, _, _, _, _, _, _, _, _, _, _, _, k13, kl⟩ := HCE.out _ HWN.out
      by_cases h0 : 0 < nums.length
      ·have d1 : decide (0 < (nums.length : Int)) = true := decide_eq_true (by omega);clear hWN;go_wp2_with fail;go_roundw
       case rel => exact ⟨k + 1, by omega, by go_num, HTX.out, HWN.out⟩
       case measure => simp [intOf]; omega
      ·have d1 : decide (0 < (nums.length : Int)) = false := decide_eq_false (by omega);clear hWN;go_wp2_with fail;go_roundw
       case rel => exact ⟨k + 1, by omega, by go_num, HTX.out, HWN.out⟩
       case measure => simp [intOf]; omega
    ·have hv : ((s[k].toNat : Nat) : Int) = 65 := by rw [hat]; rfl
     clear hat
     obtain ⟨he, hDl⟩ := HE65.out;have HWD := hJz HW65.out;obtain ⟨D, hD⟩ : ∃ D, Lib.itoa z8 = D := ⟨_, rfl⟩;rw [hD] at he hDl HWD;obtain ⟨X1, hX1⟩ : ∃ X, T ++ [32] = X := ⟨_, rfl⟩;obtain ⟨X2, hX2⟩ : ∃ X, X1 ++ D = X := ⟨_, rfl⟩;have lX1 : X1.length = T.length + 1 := by rw [← hX1]; simp
     have ad0 : ∀ W, (Op.stringOp .add (S8 T) (⟨#[32]⟩ : ByteArray)).run Tryz.prog W = .ok (.string (S8 X1)) W := by rw [← hX1]; exact add_strW T [32] (by simp only [List.length_cons, List.length_nil]; omega)
     have ad1 : ∀ W, (Op.stringOp .add (S8 X1) (S8 D)).run Tryz.prog W = .ok (.string (S8 X2)) W := by rw [← hX2]; exact add_strW X1 D (by omega)
     have HTX : Hid (Value.string (S8 X2) = .string (S8 (Lib.join (WB :: N1 :: (L.take (k + 1)).flatMap (fldW Z nums)) [32]))) := hJz (by
      rw [HTJ.out, join_more _ _ HTN.out, he, HT.out, ← hX2, ← hX1]; simp [jn])
     clear hD he hX1 hX2 lX1 hDl;go_wp2_with fail;refine (HWD.out _).mono ?_;rintro e y1 ⟨rfl, hb1⟩;have hWN := since_step HW4.out hb1;have HWN := hJz hWN;clear k0 k1 k2 k3 k4 k5 k6 k7 k8 k9 k10 k11 k12 k13 kl hb1;go_wp2_with fail;clear ad0 ad1;go_loopw [4, 8] (fun sv iv wr => sv = .string (S8 X2) ∧ iv = .int .i64 0 ∧ y1 = wr) (fun _ _ _ => 0)
     case atStart => exact ⟨rfl, rfl, rfl⟩
     case round =>
      obtain ⟨rfl, rfl, rfl⟩ := hrel;obtain ⟨_, _, _, _, _, _, _, _, _, _, _, _, _, k13, kl⟩ := HCE.out _ HWN.out
      by_cases h0 : 0 < nums.length
      ·have d1 : decide (0 < (nums.length : Int)) = true := decide_eq_true (by omega);clear hWN;go_wp2_with fail;go_roundw
       case rel => exact ⟨k + 1, by omega, by go_num, HTX.out, HWN.out⟩
       case measure => simp [intOf]; omega
      ·have d1 : decide (0 < (nums.length : Int)) = false := decide_eq_false (by omega);clear hWN;go_wp2_with fail;go_roundw
       case rel => exact ⟨k + 1, by omega, by go_num, HTX.out, HWN.out⟩
       case measure => simp [intOf]; omega
    ·have hv : ((s[k].toNat : Nat) : Int) = 84 := by rw [hat]; rfl
     clear hat
     obtain ⟨he, hDl⟩ := HE84.out;have HWD := hJz HW84.out;obtain ⟨D, hD⟩ : ∃ D, Lib.itoa z9 = D := ⟨_, rfl⟩;rw [hD] at he hDl HWD;obtain ⟨X1, hX1⟩ : ∃ X, T ++ [32] = X := ⟨_, rfl⟩;obtain ⟨X2, hX2⟩ : ∃ X, X1 ++ D = X := ⟨_, rfl⟩;have lX1 : X1.length = T.length + 1 := by rw [← hX1]; simp
     have ad0 : ∀ W, (Op.stringOp .add (S8 T) (⟨#[32]⟩ : ByteArray)).run Tryz.prog W = .ok (.string (S8 X1)) W := by rw [← hX1]; exact add_strW T [32] (by simp only [List.length_cons, List.length_nil]; omega)
     have ad1 : ∀ W, (Op.stringOp .add (S8 X1) (S8 D)).run Tryz.prog W = .ok (.string (S8 X2)) W := by rw [← hX2]; exact add_strW X1 D (by omega)
     have HTX : Hid (Value.string (S8 X2) = .string (S8 (Lib.join (WB :: N1 :: (L.take (k + 1)).flatMap (fldW Z nums)) [32]))) := hJz (by
      rw [HTJ.out, join_more _ _ HTN.out, he, HT.out, ← hX2, ← hX1]; simp [jn])
     clear hD he hX1 hX2 lX1 hDl;go_wp2_with fail;refine (HWD.out _).mono ?_;rintro e y1 ⟨rfl, hb1⟩;have hWN := since_step HW4.out hb1;have HWN := hJz hWN;clear k0 k1 k2 k3 k4 k5 k6 k7 k8 k9 k10 k11 k12 k13 kl hb1;go_wp2_with fail;clear ad0 ad1;go_loopw [4, 8] (fun sv iv wr => sv = .string (S8 X2) ∧ iv = .int .i64 0 ∧ y1 = wr) (fun _ _ _ => 0)
     case atStart => exact ⟨rfl, rfl, rfl⟩
     case round =>
      obtain ⟨rfl, rfl, rfl⟩ := hrel;obtain ⟨_, _, _, _, _, _, _, _, _, _, _, _, _, k13, kl⟩ := HCE.out _ HWN.out
      by_cases h0 : 0 < nums.length
      ·have d1 : decide (0 < (nums.length : Int)) = true := decide_eq_true (by omega);clear hWN;go_wp2_with fail;go_roundw
       case rel => exact ⟨k + 1, by omega, by go_num, HTX.out, HWN.out⟩
       case measure => simp [intOf]; omega
      ·have d1 : decide (0 < (nums.length : Int)) = false := decide_eq_false (by omega);clear hWN;go_wp2_with fail;go_roundw
       case rel => exact ⟨k + 1, by omega, by go_num, HTX.out, HWN.out⟩
       case measure => simp [intOf]; omega
    ·have hv : ((s[k].toNat : Nat) : Int) = 68 := by rw [hat]; rfl
     clear hat
     obtain ⟨he, hDl⟩ := HE68.out;have HWD := hJz HW68.out;obtain ⟨D, hD⟩ : ∃ D, Lib.itoa z10 = D := ⟨_, rfl⟩;rw [hD] at he hDl HWD;obtain ⟨X1, hX1⟩ : ∃ X, T ++ [32] = X := ⟨_, rfl⟩;obtain ⟨X2, hX2⟩ : ∃ X, X1 ++ D = X := ⟨_, rfl⟩;have lX1 : X1.length = T.length + 1 := by rw [← hX1]; simp
     have ad0 : ∀ W, (Op.stringOp .add (S8 T) (⟨#[32]⟩ : ByteArray)).run Tryz.prog W = .ok (.string (S8 X1)) W := by rw [← hX1]; exact add_strW T [32] (by simp only [List.length_cons, List.length_nil]; omega)
     have ad1 : ∀ W, (Op.stringOp .add (S8 X1) (S8 D)).run Tryz.prog W = .ok (.string (S8 X2)) W := by rw [← hX2]; exact add_strW X1 D (by omega)
     have HTX : Hid (Value.string (S8 X2) = .string (S8 (Lib.join (WB :: N1 :: (L.take (k + 1)).flatMap (fldW Z nums)) [32]))) := hJz (by
      rw [HTJ.out, join_more _ _ HTN.out, he, HT.out, ← hX2, ← hX1]; simp [jn])
     clear hD he hX1 hX2 lX1 hDl;go_wp2_with fail;refine (HWD.out _).mono ?_;rintro e y1 ⟨rfl, hb1⟩;have hWN := since_step HW4.out hb1;have HWN := hJz hWN;clear k0 k1 k2 k3 k4 k5 k6 k7 k8 k9 k10 k11 k12 k13 kl hb1;go_wp2_with fail;clear ad0 ad1;go_loopw [4, 8] (fun sv iv wr => sv = .string (S8 X2) ∧ iv = .int .i64 0 ∧ y1 = wr) (fun _ _ _ => 0)
     case atStart => exact ⟨rfl, rfl, rfl⟩
     case round =>
      obtain ⟨rfl, rfl, rfl⟩ := hrel;obtain ⟨_, _, _, _, _, _, _, _, _, _, _, _, _, k13, kl⟩ := HCE.out _ HWN.out
      by_cases h0 : 0 < nums.length
      ·have d1 : decide (0 < (nums.length : Int)) = true := decide_eq_true (by omega);clear hWN;go_wp2_with fail;go_roundw
       case rel => exact ⟨k + 1, by omega, by go_num, HTX.out, HWN.out⟩
       case measure => simp [intOf]; omega
      ·have d1 : decide (0 < (nums.length : Int)) = false := decide_eq_false (by omega);clear hWN;go_wp2_with fail;go_roundw
       case rel => exact ⟨k + 1, by omega, by go_num, HTX.out, HWN.out⟩
       case measure => simp [intOf]; omega
    ·have hv : ((s[k].toNat : Nat) : Int) = 81 := by rw [hat]; rfl
     clear hat
     obtain ⟨he, hDl⟩ := HE81.out;have HWD := hJz HW81.out;obtain ⟨D, hD⟩ : ∃ D, Lib.itoa z11 = D := ⟨_, rfl⟩;rw [hD] at he hDl HWD;obtain ⟨X1, hX1⟩ : ∃ X, T ++ [32] = X := ⟨_, rfl⟩;obtain ⟨X2, hX2⟩ : ∃ X, X1 ++ D = X := ⟨_, rfl⟩;have lX1 : X1.length = T.length + 1 := by rw [← hX1]; simp
     have ad0 : ∀ W, (Op.stringOp .add (S8 T) (⟨#[32]⟩ : ByteArray)).run Tryz.prog W = .ok (.string (S8 X1)) W := by rw [← hX1]; exact add_strW T [32] (by simp only [List.length_cons, List.length_nil]; omega)
     have ad1 : ∀ W, (Op.stringOp .add (S8 X1) (S8 D)).run Tryz.prog W = .ok (.string (S8 X2)) W := by rw [← hX2]; exact add_strW X1 D (by omega)
     have HTX : Hid (Value.string (S8 X2) = .string (S8 (Lib.join (WB :: N1 :: (L.take (k + 1)).flatMap (fldW Z nums)) [32]))) := hJz (by
      rw [HTJ.out, join_more _ _ HTN.out, he, HT.out, ← hX2, ← hX1]; simp [jn])
     clear hD he hX1 hX2 lX1 hDl;go_wp2_with fail;refine (HWD.out _).mono ?_;rintro e y1 ⟨rfl, hb1⟩;have hWN := since_step HW4.out hb1;have HWN := hJz hWN;clear k0 k1 k2 k3 k4 k5 k6 k7 k8 k9 k10 k11 k12 k13 kl hb1;go_wp2_with fail;clear ad0 ad1;go_loopw [4, 8] (fun sv iv wr => sv = .string (S8 X2) ∧ iv = .int .i64 0 ∧ y1 = wr) (fun _ _ _ => 0)
     case atStart => exact ⟨rfl, rfl, rfl⟩
     case round =>
      obtain ⟨rfl, rfl, rfl⟩ := hrel;obtain ⟨_, _, _, _, _, _, _, _, _, _, _, _, _, k13, kl⟩ := HCE.out _ HWN.out
      by_cases h0 : 0 < nums.length
      ·have d1 : decide (0 < (nums.length : Int)) = true := decide_eq_true (by omega);clear hWN;go_wp2_with fail;go_roundw
       case rel => exact ⟨k + 1, by omega, by go_num, HTX.out, HWN.out⟩
       case measure => simp [intOf]; omega
      ·have d1 : decide (0 < (nums.length : Int)) = false := decide_eq_false (by omega);clear hWN;go_wp2_with fail;go_roundw
       case rel => exact ⟨k + 1, by omega, by go_num, HTX.out, HWN.out⟩
       case measure => simp [intOf]; omega
    ·have hv : ((s[k].toNat : Nat) : Int) = 80 := by rw [hat]; rfl
     clear hat
     obtain ⟨he, hDl⟩ := HE80.out;have HWD := hJz HW80.out;obtain ⟨D, hD⟩ : ∃ D, Lib.itoa z12 = D := ⟨_, rfl⟩;rw [hD] at he hDl HWD;obtain ⟨X1, hX1⟩ : ∃ X, T ++ [32] = X := ⟨_, rfl⟩;obtain ⟨X2, hX2⟩ : ∃ X, X1 ++ D = X := ⟨_, rfl⟩;have lX1 : X1.length = T.length + 1 := by rw [← hX1]; simp
     have ad0 : ∀ W, (Op.stringOp .add (S8 T) (⟨#[32]⟩ : ByteArray)).run Tryz.prog W = .ok (.string (S8 X1)) W := by rw [← hX1]; exact add_strW T [32] (by simp only [List.length_cons, List.length_nil]; omega)
     have ad1 : ∀ W, (Op.stringOp .add (S8 X1) (S8 D)).run Tryz.prog W = .ok (.string (S8 X2)) W := by rw [← hX2]; exact add_strW X1 D (by omega)
     have HTX : Hid (Value.string (S8 X2) = .string (S8 (Lib.join (WB :: N1 :: (L.take (k + 1)).flatMap (fldW Z nums)) [32]))) := hJz (by
      rw [HTJ.out, join_more _ _ HTN.out, he, HT.out, ← hX2, ← hX1]; simp [jn])
     clear hD he hX1 hX2 lX1 hDl;go_wp2_with fail;refine (HWD.out _).mono ?_;rintro e y1 ⟨rfl, hb1⟩;have hWN := since_step HW4.out hb1;have HWN := hJz hWN;clear k0 k1 k2 k3 k4 k5 k6 k7 k8 k9 k10 k11 k12 k13 kl hb1;go_wp2_with fail;clear ad0 ad1;go_loopw [4, 8] (fun sv iv wr => sv = .string (S8 X2) ∧ iv = .int .i64 0 ∧ y1 = wr) (fun _ _ _ => 0)
     case atStart => exact ⟨rfl, rfl, rfl⟩
     case round =>
      obtain ⟨rfl, rfl, rfl⟩ := hrel;obtain ⟨_, _, _, _, _, _, _, _, _, _, _, _, _, k13, kl⟩ := HCE.out _ HWN.out
      by_cases h0 : 0 < nums.length
      ·have d1 : decide (0 < (nums.length : Int)) = true := decide_eq_true (by omega);clear hWN;go_wp2_with fail;go_roundw
       case rel => exact ⟨k + 1, by omega, by go_num, HTX.out, HWN.out⟩
       case measure => simp [intOf]; omega
      ·have d1 : decide (0 < (nums.length : Int)) = false := decide_eq_false (by omega);clear hWN;go_wp2_with fail;go_roundw
       case rel => exact ⟨k + 1, by omega, by go_num, HTX.out, HWN.out⟩
       case measure => simp [intOf]; omega
    ·have hv : ((s[k].toNat : Nat) : Int) = 78 := by rw [hat]; rfl
     clear hat
     have he := HE78.out;have HBL : Hid (∀ j, Lw 7000 (B4 ++ (nums.take j).map Lib.itoa)) := hJz fun j => HB4L.out.takeMore H6.out HNL.out;go_wp2_with fail;clear k0 k1 k2 k3 k4 k5 k6 k7 k8 k9 k10 k11 k12 k13 kl;go_loopw [4, 8] (fun sv iv wr => ∃ (j : Nat), j ≤ nums.length ∧ iv = .int .i64 (j : Int) ∧ sv = .string (S8 (Lib.join (B4 ++ (nums.take j).map Lib.itoa) [32])) ∧ Below W1.heap.size W1 wr) (fun _ iv _ => nums.length - (intOf iv).toNat)
     case atStart => exact ⟨0, by omega, rfl, by rw [← HT.out]; simp, HW4.out⟩
     case round =>
      clear HW4;obtain ⟨j, hj1, rfl, rfl, hW5⟩ := hrel;obtain ⟨_, _, _, _, _, _, _, _, _, _, _, _, _, k13, kl⟩ := HCE.out _ hW5
      by_cases hj : j < nums.length
      ·have d1 : decide ((j : Int) < (nums.length : Int)) = true := decide_eq_true (by omega);have hj0 : (0 : Int) ≤ (j : Int) := by omega
       have hji : (j : Int) < (nums.length : Int) := by omega
       obtain ⟨b2, o2, hA2, c0⟩ := (HSN.out wr (HKY.out wr hW5).2).int hj;obtain ⟨x, hx⟩ : ∃ x, nums[j] = x := ⟨_, rfl⟩;have hmem : x ∈ nums := by rw [← hx]; exact List.getElem_mem hj
       have hTJ2 : B4 ++ (nums.take (j + 1)).map Lib.itoa = (B4 ++ (nums.take j).map Lib.itoa) ++ [Lib.itoa x] := by rw [take_snoc nums j hj, List.map_append, ← List.append_assoc, hx]; rfl
       have HNM := hJz (HNR.out x hmem);rw [hx] at c0;have hl2 := itoa_len x (H6.out x hmem);have hTl2 := join_len (HBL.out j) (by omega);have hne : B4 ++ (nums.take j).map Lib.itoa ≠ [] := by have := HTN.out; simp [this]
       obtain ⟨D, hD⟩ : ∃ D, Lib.itoa x = D := ⟨_, rfl⟩;rw [hD] at HNM hl2 hTJ2;obtain ⟨T2, hT2⟩ : ∃ T, Lib.join (B4 ++ (nums.take j).map Lib.itoa) [32] = T := ⟨_, rfl⟩;obtain ⟨X1, hX1⟩ : ∃ X, T2 ++ [32] = X := ⟨_, rfl⟩;obtain ⟨X2, hX2⟩ : ∃ X, X1 ++ D = X := ⟨_, rfl⟩;rw [hT2] at hTl2 ⊢;have lX1 : X1.length = T2.length + 1 := by rw [← hX1]; simp
       have ad0 : ∀ W, (Op.stringOp .add (S8 T2) (⟨#[32]⟩ : ByteArray)).run Tryz.prog W = .ok (.string (S8 X1)) W := by rw [← hX1]; exact add_strW T2 [32] (by simp only [List.length_cons, List.length_nil]; omega)
       have ad1 : ∀ W, (Op.stringOp .add (S8 X1) (S8 D)).run Tryz.prog W = .ok (.string (S8 X2)) W := by rw [← hX2]; exact add_strW X1 D (by omega)
       have HTX : Hid (Value.string (S8 X2) = .string (S8 (Lib.join (B4 ++ (nums.take (j + 1)).map Lib.itoa) [32]))) := hJz (by
        rw [hTJ2, join_more _ _ hne, hT2, ← hX2, ← hX1]; simp [jn])
       have HW5 := hJz hW5;subst hA2;clear hx hTJ2 hD hT2 hX1 hX2 lX1 hTl2 hl2 hmem hne hW5;go_wp2_with fail;refine (HNM.out _).mono ?_;rintro e y1 ⟨rfl, hb1⟩;have hWN := since_step HW5.out hb1;clear k13 kl c0 hb1;go_wp2_with fail;go_roundw
       case rel => exact ⟨j + 1, by omega, by go_num, HTX.out, hWN⟩
       case measure => simp [intOf]; omega
      ·obtain rfl : j = nums.length := by omega
       have d1 : decide ((nums.length : Int) < (nums.length : Int)) = false := decide_eq_false (by omega);have HTX : Hid (Value.string (S8 (Lib.join (B4 ++ (nums.take nums.length).map Lib.itoa) [32])) = .string (S8 (Lib.join (WB :: N1 :: (L.take (k + 1)).flatMap (fldW Z nums)) [32]))) := hJz (by rw [HTJ.out, he, List.take_length]);have HW5 := hJz hW5;obtain ⟨T2, hT2⟩ : ∃ T, Lib.join (B4 ++ (nums.take nums.length).map Lib.itoa) [32] = T := ⟨_, rfl⟩;rw [hT2] at HTX ⊢;clear hW5 hT2 he;go_wp2_with fail;go_roundw
       case rel => exact ⟨k + 1, by omega, by go_num, HTX.out, HW5.out⟩
       case measure => simp [intOf]; omega
   ·obtain rfl : k = s.size := by omega
    rw [List.take_of_length_le (by have := HSZ.out; omega), ← HL2.out];have hB9 := (HKY.out wr hW4).2;clear hW4;go_wp2_with fail;go_ret2;exact ⟨rfl, hB9⟩
  
 ·go_simp
  refine (HNB.out _).mono ?_;rintro e y2 ⟨rfl, hb2⟩;have hKeep := since_step hHeld hb2;have hc6 := (hb2.cell (p := ⟨v1.heap.size, t, none⟩) hl5).trans hc5;have hl6 := Nat.lt_of_lt_of_le hl5 hb2.size;clear hb2;go_wp2_with fail;refine hK.out _ _ (by (try dsimp only); exact hKeep) (fun hHeld => ?_); clear hK K hKeep; try simp only [pqZ]
  refine rdZ 5 17 rfl (by kernel_rfl) (fun K hK => ?_);have hHd := hHeld;obtain ⟨p0, p1, _, _, _, _, _, _, _, _, _, _, _, _, pl⟩ := HCE.out _ (hHd);have hKeep := hHeld
  skip
  go_simp
  refine hK.out _ _ (by (try dsimp only); exact hKeep) (fun hHeld => ?_); clear hK K hKeep; try simp only [pqZ]
  refine tkI 6 18 rfl (by intro w hSw; obtain ⟨p0, p1, _, _, _, _, _, _, _, _, _, _, _, _, pl⟩ := HCE.out _ (hSw); go_simp <;> with_reducible rfl) hHeld ?_; simp only [pqZ];refine tkI 10 22 rfl (by intro w hSw; obtain ⟨p0, p1, _, _, _, _, _, _, _, _, _, _, _, _, pl⟩ := HCE.out _ (hSw); go_simp <;> with_reducible rfl) hHeld ?_; simp only [pqZ];refine tkI 11 4 rfl (by intro w hSw; obtain ⟨p0, p1, _, _, _, _, _, _, _, _, _, _, _, _, pl⟩ := HCE.out _ (hSw); go_simp <;> with_reducible rfl) hHeld ?_; simp only [pqZ];refine wpAnyH_done (by kernel_rfl) ?_ _;have hH3 := hHeld;clear ad0 ad1 hw1 ht0 ht3 ht31 hHeld;have HH3 := hJz hH3;obtain ⟨k0, _, _, _, _, _, _, _, _, _, _, _, _, _, kl⟩ := HCE.out _ hH3;clear hH3;go_wp2_with fail;refine (HF.out _).mono ?_;rintro e v4 ⟨rfl, hb4⟩;have HB4 := hJz (since_step HH3.out hb4);clear hb4 k0 kl HF HH3;obtain ⟨L, hL⟩ : ∃ L, fldL z0 = L := ⟨_, rfl⟩;rw [hL] at HMEM HL2 HLEN HAT HL5 ⊢;have hsz := bs8_size L;obtain ⟨s, hs⟩ : ∃ s, bs8 L = s := ⟨_, rfl⟩;rw [hs] at HAT hsz ⊢;have HSZ := hJz hsz;have hs5 : s.size ≤ 5 := by omega
  clear hL hs hsz;go_wp2_with fail;go_loopw [4, 6] (fun sv iv wr => ∃ (k : Nat), k ≤ s.size ∧ iv = .int .i64 (k : Int) ∧ sv = .string (S8 (Lib.join (WB :: N1 :: (L.take k).flatMap (fldW Z nums)) [32])) ∧ Below W1.heap.size W1 wr) (fun _ iv _ => s.size - (intOf iv).toNat)
  case atStart => exact ⟨0, by omega, rfl, by rw [HX2.out]; rfl, HB4.out⟩
  case round =>
   clear HB4 HX2;obtain ⟨k, hk, rfl, rfl, hW4⟩ := hrel
   by_cases hkl : k < s.size
   ·have hk1 : (k : Int) < (s.size : Int) := by omega
    have hk0 : (0 : Int) ≤ (k : Int) := by omega
    obtain ⟨h2, hat⟩ := HAT.out k hkl;obtain ⟨f, hf⟩ : ∃ f, L[k] = f := ⟨_, rfl⟩;have hmem := HMEM.out _ (List.getElem_mem h2);have hTJ : WB :: N1 :: (L.take (k + 1)).flatMap (fldW Z nums) = (WB :: N1 :: (L.take k).flatMap (fldW Z nums)) ++ fldW Z nums f := by rw [take_snoc L k h2, List.flatMap_append, hf]; simp
    have hTl := join_len (HLEN.out k) (by omega);have HB4L := hJz (HLEN.out k);rw [hf] at hat hmem;obtain ⟨B4, hB4⟩ : ∃ B4, WB :: N1 :: (L.take k).flatMap (fldW Z nums) = B4 := ⟨_, rfl⟩;rw [hB4] at hTJ hTl HB4L ⊢;have hTN : B4 ≠ [] := by rw [← hB4]; simp
    have HTN := hJz hTN;have HTJ := hJz hTJ;obtain ⟨T, hT⟩ : ∃ T, Lib.join B4 [32] = T := ⟨_, rfl⟩;have HT := hJz hT;rw [hT] at hTl ⊢;have HW4 := hJz hW4;obtain ⟨k0, k1, k2, k3, k4, k5, k6, k7, k8, k9, k10, k11, k12, k13, kl⟩ := HCE.out wr hW4;clear hf hTJ hB4 hT hTN hW4 h2
    rcases hmem with rfl | rfl | rfl | rfl | rfl | rfl | rfl | rfl | rfl | rfl
    ·have hv : ((s[k].toNat : Nat) : Int) = 77 := by rw [hat]; rfl
     clear hat
     obtain ⟨he, hDl⟩ := HE77.out;have HWD := hJz HW77.out;obtain ⟨D, hD⟩ : ∃ D, Lib.itoa z2 = D := ⟨_, rfl⟩;rw [hD] at he hDl HWD;obtain ⟨X1, hX1⟩ : ∃ X, T ++ [32] = X := ⟨_, rfl⟩;obtain ⟨X2, hX2⟩ : ∃ X, X1 ++ D = X := ⟨_, rfl⟩;have lX1 : X1.length = T.length + 1 := by rw [← hX1]; simp
     have ad0 : ∀ W, (Op.stringOp .add (S8 T) (⟨#[32]⟩ : ByteArray)).run Tryz.prog W = .ok (.string (S8 X1)) W := by rw [← hX1]; exact add_strW T [32] (by simp only [List.length_cons, List.length_nil]; omega)
     have ad1 : ∀ W, (Op.stringOp .add (S8 X1) (S8 D)).run Tryz.prog W = .ok (.string (S8 X2)) W := by rw [← hX2]; exact add_strW X1 D (by omega)
     have HTX : Hid (Value.string (S8 X2) = .string (S8 (Lib.join (WB :: N1 :: (L.take (k + 1)).flatMap (fldW Z nums)) [32]))) := hJz (by
      rw [HTJ.out, join_more _ _ HTN.out, he, HT.out, ← hX2, ← hX1]; simp [jn])
     clear hD he hX1 hX2 lX1 hDl;go_wp2_with fail;refine (HWD.out _).mono ?_;rintro e y1 ⟨rfl, hb1⟩;have hWN := since_step HW4.out hb1;have HWN := hJz hWN;clear k0 k1 k2 k3 k4 k5 k6 k7 k8 k9 k10 k11 k12 k13 kl hb1;go_wp2_with fail;clear ad0 ad1;go_loopw [4, 8] (fun sv iv wr => sv = .string (S8 X2) ∧ iv = .int .i64 0 ∧ y1 = wr) (fun _ _ _ => 0)
     case atStart => exact ⟨rfl, rfl, rfl⟩
     case round =>
      obtain ⟨rfl, rfl, rfl⟩ := hrel;obtain ⟨_, _, _, _, _, _, _, _, _, _, _, _, _, k13, kl⟩ := HCE.out _ HWN.out
      by_cases h0 : 0 < nums.length
      ·have d1 : decide (0 < (nums.length : Int)) = true := decide_eq_true (by omega);clear hWN;go_wp2_with fail;go_roundw
       case rel => exact ⟨k + 1, by omega, by go_num, HTX.out, HWN.out⟩
       case measure => simp [intOf]; omega
      ·have d1 : decide (0 < (nums.length : Int)) = false := decide_eq_false (by omega);clear hWN;go_wp2_with fail;go_roundw
       case rel => exact ⟨k + 1, by omega, by go_num, HTX.out, HWN.out⟩
       case measure => simp [intOf]; omega
    ·have hv : ((s[k].toNat : Nat) : Int) = 85 := by rw [hat]; rfl
     clear hat
     obtain ⟨he, hDl⟩ := HE85.out;have HWD := hJz HW85.out;obtain ⟨D, hD⟩ : ∃ D, unitB z3 z4 = D := ⟨_, rfl⟩;rw [hD] at he hDl HWD;obtain ⟨X1, hX1⟩ : ∃ X, T ++ [32] = X := ⟨_, rfl⟩;obtain ⟨X2, hX2⟩ : ∃ X, X1 ++ D = X := ⟨_, rfl⟩;have lX1 : X1.length = T.length + 1 := by rw [← hX1]; simp
     have ad0 : ∀ W, (Op.stringOp .add (S8 T) (⟨#[32]⟩ : ByteArray)).run Tryz.prog W = .ok (.string (S8 X1)) W := by rw [← hX1]; exact add_strW T [32] (by simp only [List.length_cons, List.length_nil]; omega)
     have ad1 : ∀ W, (Op.stringOp .add (S8 X1) (S8 D)).run Tryz.prog W = .ok (.string (S8 X2)) W := by rw [← hX2]; exact add_strW X1 D (by omega)
     have HTX : Hid (Value.string (S8 X2) = .string (S8 (Lib.join (WB :: N1 :: (L.take (k + 1)).flatMap (fldW Z nums)) [32]))) := hJz (by
      rw [HTJ.out, join_more _ _ HTN.out, he, HT.out, ← hX2, ← hX1]; simp [jn])
     clear hD he hX1 hX2 lX1 hDl;go_wp2_with fail;refine (HWD.out _).mono ?_;rintro e y1 ⟨rfl, hb1⟩;have hWN := since_step HW4.out hb1;have HWN := hJz hWN;clear k0 k1 k2 k3 k4 k5 k6 k7 k8 k9 k10 k11 k12 k13 kl hb1;go_wp2_with fail;clear ad0 ad1;go_loopw [4, 8] (fun sv iv wr => sv = .string (S8 X2) ∧ iv = .int .i64 0 ∧ y1 = wr) (fun _ _ _ => 0)
     case atStart => exact ⟨rfl, rfl, rfl⟩
     case round =>
      obtain ⟨rfl, rfl, rfl⟩ := hrel;obtain ⟨_, _, _, _, _, _, _, _, _, _, _, _, _, k13, kl⟩ := HCE.out _ HWN.out
      by_cases h0 : 0 < nums.length
      ·have d1 : decide (0 < (nums.length : Int)) = true := decide_eq_true (by omega);clear hWN;go_wp2_with fail;go_roundw
       case rel => exact ⟨k + 1, by omega, by go_num, HTX.out, HWN.out⟩
       case measure => simp [intOf]; omega
      ·have d1 : decide (0 < (nums.length : Int)) = false := decide_eq_false (by omega);clear hWN;go_wp2_with fail;go_roundw
       case rel => exact ⟨k + 1, by omega, by go_num, HTX.out, HWN.out⟩
       case measure => simp [intOf]; omega
    ·have hv : ((s[k].toNat : Nat) : Int) = 79 := by rw [hat]; rfl
     clear hat
     obtain ⟨he, hDl⟩ := HE79.out;have HWD := hJz HW79.out;obtain ⟨D, hD⟩ : ∃ D, unitB z5 z6 = D := ⟨_, rfl⟩;rw [hD] at he hDl HWD;obtain ⟨X1, hX1⟩ : ∃ X, T ++ [32] = X := ⟨_, rfl⟩;obtain ⟨X2, hX2⟩ : ∃ X, X1 ++ D = X := ⟨_, rfl⟩;have lX1 : X1.length = T.length + 1 := by rw [← hX1]; simp
     have ad0 : ∀ W, (Op.stringOp .add (S8 T) (⟨#[32]⟩ : ByteArray)).run Tryz.prog W = .ok (.string (S8 X1)) W := by rw [← hX1]; exact add_strW T [32] (by simp only [List.length_cons, List.length_nil]; omega)
     have ad1 : ∀ W, (Op.stringOp .add (S8 X1) (S8 D)).run Tryz.prog W = .ok (.string (S8 X2)) W := by rw [← hX2]; exact add_strW X1 D (by omega)
     have HTX : Hid (Value.string (S8 X2) = .string (S8 (Lib.join (WB :: N1 :: (L.take (k + 1)).flatMap (fldW Z nums)) [32]))) := hJz (by
      rw [HTJ.out, join_more _ _ HTN.out, he, HT.out, ← hX2, ← hX1]; simp [jn])
     clear hD he hX1 hX2 lX1 hDl;go_wp2_with fail;refine (HWD.out _).mono ?_;rintro e y1 ⟨rfl, hb1⟩;have hWN := since_step HW4.out hb1;have HWN := hJz hWN;clear k0 k1 k2 k3 k4 k5 k6 k7 k8 k9 k10 k11 k12 k13 kl hb1;go_wp2_with fail;clear ad0 ad1;go_loopw [4, 8] (fun sv iv wr => sv = .string (S8 X2) ∧ iv = .int .i64 0 ∧ y1 = wr) (fun _ _ _ => 0)
     case atStart => exact ⟨rfl, rfl, rfl⟩
     case round =>
      obtain ⟨rfl, rfl, rfl⟩ := hrel;obtain ⟨_, _, _, _, _, _, _, _, _, _, _, _, _, k13, kl⟩ := HCE.out _ HWN.out
      by_cases h0 : 0 < nums.length
      ·have d1 : decide (0 < (nums.length : Int)) = true := decide_eq_true (by omega);clear hWN;go_wp2_with fail;go_roundw
       case rel => exact ⟨k + 1, by omega, by go_num, HTX.out, HWN.out⟩
       case measure => simp [intOf]; omega
      ·have d1 : decide (0 < (nums.length : Int)) = false := decide_eq_false (by omega);clear hWN;go_wp2_with fail;go_roundw
       case rel => exact ⟨k + 1, by omega, by go_num, HTX.out, HWN.out⟩
       case measure => simp [intOf]; omega
    ·have hv : ((s[k].toNat : Nat) : Int) = 73 := by rw [hat]; rfl
     clear hat
     obtain ⟨he, hDl⟩ := HE73.out;have HWD := hJz HW73.out;obtain ⟨D, hD⟩ : ∃ D, Lib.itoa z7 = D := ⟨_, rfl⟩;rw [hD] at he hDl HWD;obtain ⟨X1, hX1⟩ : ∃ X, T ++ [32] = X := ⟨_, rfl⟩;obtain ⟨X2, hX2⟩ : ∃ X, X1 ++ D = X := ⟨_, rfl⟩;have lX1 : X1.length = T.length + 1 := by rw [← hX1]; simp
     have ad0 : ∀ W, (Op.stringOp .add (S8 T) (⟨#[32]⟩ : ByteArray)).run Tryz.prog W = .ok (.string (S8 X1)) W := by rw [← hX1]; exact add_strW T [32] (by simp only [List.length_cons, List.length_nil]; omega)
     have ad1 : ∀ W, (Op.stringOp .add (S8 X1) (S8 D)).run Tryz.prog W = .ok (.string (S8 X2)) W := by rw [← hX2]; exact add_strW X1 D (by omega)
     have HTX : Hid (Value.string (S8 X2) = .string (S8 (Lib.join (WB :: N1 :: (L.take (k + 1)).flatMap (fldW Z nums)) [32]))) := hJz (by
      rw [HTJ.out, join_more _ _ HTN.out, he, HT.out, ← hX2, ← hX1]; simp [jn])
     clear hD he hX1 hX2 lX1 hDl;go_wp2_with fail;refine (HWD.out _).mono ?_;rintro e y1 ⟨rfl, hb1⟩;have hWN := since_step HW4.out hb1;have HWN := hJz hWN;clear k0 k1 k2 k3 k4 k5 k6 k7 k8 k9 k10 k11 k12 k13 kl hb1;go_wp2_with fail;clear ad0 ad1;go_loopw [4, 8] (fun sv iv wr => sv = .string (S8 X2) ∧ iv = .int .i64 0 ∧ y1 = wr) (fun _ _ _ => 0)
     case atStart => exact ⟨rfl, rfl, rfl⟩
     case round =>
      obtain ⟨rfl, rfl, rfl⟩ := hrel;obtain ⟨_, _, _, _, _, _, _, _, _, _, _, _, _, k13, kl⟩ := HCE.out _ HWN.out
      by_cases h0 : 0 < nums.length
      ·have d1 : decide (0 < (nums.length : Int)) = true := decide_eq_true (by omega);clear hWN;go_wp2_with fail;go_roundw
       case rel => exact ⟨k + 1, by omega, by go_num, HTX.out, HWN.out⟩
       case measure => simp [intOf]; omega
      ·have d1 : decide (0 < (nums.length : Int)) = false := decide_eq_false (by omega);clear hWN;go_wp2_with fail;go_roundw
       case rel => exact ⟨k + 1, by omega, by go_num, HTX.out, HWN.out⟩
       case measure => simp [intOf]; omega
    ·have hv : ((s[k].toNat : Nat) : Int) = 65 := by rw [hat]; rfl
     clear hat
     obtain ⟨he, hDl⟩ := HE65.out;have HWD := hJz HW65.out;obtain ⟨D, hD⟩ : ∃ D, Lib.itoa z8 = D := ⟨_, rfl⟩;rw [hD] at he hDl HWD;obtain ⟨X1, hX1⟩ : ∃ X, T ++ [32] = X := ⟨_, rfl⟩;obtain ⟨X2, hX2⟩ : ∃ X, X1 ++ D = X := ⟨_, rfl⟩;have lX1 : X1.length = T.length + 1 := by rw [← hX1]; simp
     have ad0 : ∀ W, (Op.stringOp .add (S8 T) (⟨#[32]⟩ : ByteArray)).run Tryz.prog W = .ok (.string (S8 X1)) W := by rw [← hX1]; exact add_strW T [32] (by simp only [List.length_cons, List.length_nil]; omega)
     have ad1 : ∀ W, (Op.stringOp .add (S8 X1) (S8 D)).run Tryz.prog W = .ok (.string (S8 X2)) W := by rw [← hX2]; exact add_strW X1 D (by omega)
     have HTX : Hid (Value.string (S8 X2) = .string (S8 (Lib.join (WB :: N1 :: (L.take (k + 1)).flatMap (fldW Z nums)) [32]))) := hJz (by
      rw [HTJ.out, join_more _ _ HTN.out, he, HT.out, ← hX2, ← hX1]; simp [jn])
     clear hD he hX1 hX2 lX1 hDl;go_wp2_with fail;refine (HWD.out _).mono ?_;rintro e y1 ⟨rfl, hb1⟩;have hWN := since_step HW4.out hb1;have HWN := hJz hWN;clear k0 k1 k2 k3 k4 k5 k6 k7 k8 k9 k10 k11 k12 k13 kl hb1;go_wp2_with fail;clear ad0 ad1;go_loopw [4, 8] (fun sv iv wr => sv = .string (S8 X2) ∧ iv = .int .i64 0 ∧ y1 = wr) (fun _ _ _ => 0)
     case atStart => exact ⟨rfl, rfl, rfl⟩
     case round =>
      obtain ⟨rfl, rfl, rfl⟩ := hrel;obtain ⟨_, _, _, _, _, _, _, _, _, _, _, _, _, k13, kl⟩ := HCE.out _ HWN.out
      by_cases h0 : 0 < nums.length
      ·have d1 : decide (0 < (nums.length : Int)) = true := decide_eq_true (by omega);clear hWN;go_wp2_with fail;go_roundw
       case rel => exact ⟨k + 1, by omega, by go_num, HTX.out, HWN.out⟩
       case measure => simp [intOf]; omega
      ·have d1 : decide (0 < (nums.length : Int)) = false := decide_eq_false (by omega);clear hWN;go_wp2_with fail;go_roundw
       case rel => exact ⟨k + 1, by omega, by go_num, HTX.out, HWN.out⟩
       case measure => simp [intOf]; omega
    ·have hv : ((s[k].toNat : Nat) : Int) = 84 := by rw [hat]; rfl
     clear hat
     obtain ⟨he, hDl⟩ := HE84.out;have HWD := hJz HW84.out;obtain ⟨D, hD⟩ : ∃ D, Lib.itoa z9 = D := ⟨_, rfl⟩;rw [hD] at he hDl HWD;obtain ⟨X1, hX1⟩ : ∃ X, T ++ [32] = X := ⟨_, rfl⟩;obtain ⟨X2, hX2⟩ : ∃ X, X1 ++ D = X := ⟨_, rfl⟩;have lX1 : X1.length = T.length + 1 := by rw [← hX1]; simp
     have ad0 : ∀ W, (Op.stringOp .add (S8 T) (⟨#[32]⟩ : ByteArray)).run Tryz.prog W = .ok (.string (S8 X1)) W := by rw [← hX1]; exact add_strW T [32] (by simp only [List.length_cons, List.length_nil]; omega)
     have ad1 : ∀ W, (Op.stringOp .add (S8 X1) (S8 D)).run Tryz.prog W = .ok (.string (S8 X2)) W := by rw [← hX2]; exact add_strW X1 D (by omega)
     have HTX : Hid (Value.string (S8 X2) = .string (S8 (Lib.join (WB :: N1 :: (L.take (k + 1)).flatMap (fldW Z nums)) [32]))) := hJz (by
      rw [HTJ.out, join_more _ _ HTN.out, he, HT.out, ← hX2, ← hX1]; simp [jn])
     clear hD he hX1 hX2 lX1 hDl;go_wp2_with fail;refine (HWD.out _).mono ?_;rintro e y1 ⟨rfl, hb1⟩;have hWN := since_step HW4.out hb1;have HWN := hJz hWN;clear k0 k1 k2 k3 k4 k5 k6 k7 k8 k9 k10 k11 k12 k13 kl hb1;go_wp2_with fail;clear ad0 ad1;go_loopw [4, 8] (fun sv iv wr => sv = .string (S8 X2) ∧ iv = .int .i64 0 ∧ y1 = wr) (fun _ _ _ => 0)
     case atStart => exact ⟨rfl, rfl, rfl⟩
     case round =>
      obtain ⟨rfl, rfl, rfl⟩ := hrel;obtain ⟨_, _, _, _, _, _, _, _, _, _, _, _, _, k13, kl⟩ := HCE.out _ HWN.out
      by_cases h0 : 0 < nums.length
      ·have d1 : decide (0 < (nums.length : Int)) = true := decide_eq_true (by omega);clear hWN;go_wp2_with fail;go_roundw
       case rel => exact ⟨k + 1, by omega, by go_num, HTX.out, HWN.out⟩
       case measure => simp [intOf]; omega
      ·have d1 : decide (0 < (nums.length : Int)) = false := decide_eq_false (by omega);clear hWN;go_wp2_with fail;go_roundw
       case rel => exact ⟨k + 1, by omega, by go_num, HTX.out, HWN.out⟩
       case measure => simp [intOf]; omega
    ·have hv : ((s[k].toNat : Nat) : Int) = 68 := by rw [hat]; rfl
     clear hat
     obtain ⟨he, hDl⟩ := HE68.out;have HWD := hJz HW68.out;obtain ⟨D, hD⟩ : ∃ D, Lib.itoa z10 = D := ⟨_, rfl⟩;rw [hD] at he hDl HWD;obtain ⟨X1, hX1⟩ : ∃ X, T ++ [32] = X := ⟨_, rfl⟩;obtain ⟨X2, hX2⟩ : ∃ X, X1 ++ D = X := ⟨_, rfl⟩;have lX1 : X1.length = T.length + 1 := by rw [← hX1]; simp
     have ad0 : ∀ W, (Op.stringOp .add (S8 T) (⟨#[32]⟩ : ByteArray)).run Tryz.prog W = .ok (.string (S8 X1)) W := by rw [← hX1]; exact add_strW T [32] (by simp only [List.length_cons, List.length_nil]; omega)
     have ad1 : ∀ W, (Op.stringOp .add (S8 X1) (S8 D)).run Tryz.prog W = .ok (.string (S8 X2)) W := by rw [← hX2]; exact add_strW X1 D (by omega)
     have HTX : Hid (Value.string (S8 X2) = .string (S8 (Lib.join (WB :: N1 :: (L.take (k + 1)).flatMap (fldW Z nums)) [32]))) := hJz (by
      rw [HTJ.out, join_more _ _ HTN.out, he, HT.out, ← hX2, ← hX1]; simp [jn])
     clear hD he hX1 hX2 lX1 hDl;go_wp2_with fail;refine (HWD.out _).mono ?_;rintro e y1 ⟨rfl, hb1⟩;have hWN := since_step HW4.out hb1;have HWN := hJz hWN;clear k0 k1 k2 k3 k4 k5 k6 k7 k8 k9 k10 k11 k12 k13 kl hb1;go_wp2_with fail;clear ad0 ad1;go_loopw [4, 8] (fun sv iv wr => sv = .string (S8 X2) ∧ iv = .int .i64 0 ∧ y1 = wr) (fun _ _ _ => 0)
     case atStart => exact ⟨rfl, rfl, rfl⟩
     case round =>
      obtain ⟨rfl, rfl, rfl⟩ := hrel;obtain ⟨_, _, _, _, _, _, _, _, _, _, _, _, _, k13, kl⟩ := HCE.out _ HWN.out
      by_cases h0 : 0 < nums.length
      ·have d1 : decide (0 < (nums.length : Int)) = true := decide_eq_true (by omega);clear hWN;go_wp2_with fail;go_roundw
       case rel => exact ⟨k + 1, by omega, by go_num, HTX.out, HWN.out⟩
       case measure => simp [intOf]; omega
      ·have d1 : decide (0 < (nums.length : Int)) = false := decide_eq_false (by omega);clear hWN;go_wp2_with fail;go_roundw
       case rel => exact ⟨k + 1, by omega, by go_num, HTX.out, HWN.out⟩
       case measure => simp [intOf]; omega
    ·have hv : ((s[k].toNat : Nat) : Int) = 81 := by rw [hat]; rfl
     clear hat
     obtain ⟨he, hDl⟩ := HE81.out;have HWD := hJz HW81.out;obtain ⟨D, hD⟩ : ∃ D, Lib.itoa z11 = D := ⟨_, rfl⟩;rw [hD] at he hDl HWD;obtain ⟨X1, hX1⟩ : ∃ X, T ++ [32] = X := ⟨_, rfl⟩;obtain ⟨X2, hX2⟩ : ∃ X, X1 ++ D = X := ⟨_, rfl⟩;have lX1 : X1.length = T.length + 1 := by rw [← hX1]; simp
     have ad0 : ∀ W, (Op.stringOp .add (S8 T) (⟨#[32]⟩ : ByteArray)).run Tryz.prog W = .ok (.string (S8 X1)) W := by rw [← hX1]; exact add_strW T [32] (by simp only [List.length_cons, List.length_nil]; omega)
     have ad1 : ∀ W, (Op.stringOp .add (S8 X1) (S8 D)).run Tryz.prog W = .ok (.string (S8 X2)) W := by rw [← hX2]; exact add_strW X1 D (by omega)
     have HTX : Hid (Value.string (S8 X2) = .string (S8 (Lib.join (WB :: N1 :: (L.take (k + 1)).flatMap (fldW Z nums)) [32]))) := hJz (by
      rw [HTJ.out, join_more _ _ HTN.out, he, HT.out, ← hX2, ← hX1]; simp [jn])
     clear hD he hX1 hX2 lX1 hDl;go_wp2_with fail;refine (HWD.out _).mono ?_;rintro e y1 ⟨rfl, hb1⟩;have hWN := since_step HW4.out hb1;have HWN := hJz hWN;clear k0 k1 k2 k3 k4 k5 k6 k7 k8 k9 k10 k11 k12 k13 kl hb1;go_wp2_with fail;clear ad0 ad1;go_loopw [4, 8] (fun sv iv wr => sv = .string (S8 X2) ∧ iv = .int .i64 0 ∧ y1 = wr) (fun _ _ _ => 0)
     case atStart => exact ⟨rfl, rfl, rfl⟩
     case round =>
      obtain ⟨rfl, rfl, rfl⟩ := hrel;obtain ⟨_, _, _, _, _, _, _, _, _, _, _, _, _, k13, kl⟩ := HCE.out _ HWN.out
      by_cases h0 : 0 < nums.length
      ·have d1 : decide (0 < (nums.length : Int)) = true := decide_eq_true (by omega);clear hWN;go_wp2_with fail;go_roundw
       case rel => exact ⟨k + 1, by omega, by go_num, HTX.out, HWN.out⟩
       case measure => simp [intOf]; omega
      ·have d1 : decide (0 < (nums.length : Int)) = false := decide_eq_false (by omega);clear hWN;go_wp2_with fail;go_roundw
       case rel => exact ⟨k + 1, by omega, by go_num, HTX.out, HWN.out⟩
       case measure => simp [intOf]; omega
    ·have hv : ((s[k].toNat : Nat) : Int) = 80 := by rw [hat]; rfl
     clear hat
     obtain ⟨he, hDl⟩ := HE80.out;have HWD := hJz HW80.out;obtain ⟨D, hD⟩ : ∃ D, Lib.itoa z12 = D := ⟨_, rfl⟩;rw [hD] at he hDl HWD;obtain ⟨X1, hX1⟩ : ∃ X, T ++ [32] = X := ⟨_, rfl⟩;obtain ⟨X2, hX2⟩ : ∃ X, X1 ++ D = X := ⟨_, rfl⟩;have lX1 : X1.length = T.length + 1 := by rw [← hX1]; simp
     have ad0 : ∀ W, (Op.stringOp .add (S8 T) (⟨#[32]⟩ : ByteArray)).run Tryz.prog W = .ok (.string (S8 X1)) W := by rw [← hX1]; exact add_strW T [32] (by simp only [List.length_cons, List.length_nil]; omega)
     have ad1 : ∀ W, (Op.stringOp .add (S8 X1) (S8 D)).run Tryz.prog W = .ok (.string (S8 X2)) W := by rw [← hX2]; exact add_strW X1 D (by omega)
     have HTX : Hid (Value.string (S8 X2) = .string (S8 (Lib.join (WB :: N1 :: (L.take (k + 1)).flatMap (fldW Z nums)) [32]))) := hJz (by
      rw [HTJ.out, join_more _ _ HTN.out, he, HT.out, ← hX2, ← hX1]; simp [jn])
     clear hD he hX1 hX2 lX1 hDl;go_wp2_with fail;refine (HWD.out _).mono ?_;rintro e y1 ⟨rfl, hb1⟩;have hWN := since_step HW4.out hb1;have HWN := hJz hWN;clear k0 k1 k2 k3 k4 k5 k6 k7 k8 k9 k10 k11 k12 k13 kl hb1;go_wp2_with fail;clear ad0 ad1;go_loopw [4, 8] (fun sv iv wr => sv = .string (S8 X2) ∧ iv = .int .i64 0 ∧ y1 = wr) (fun _ _ _ => 0)
     case atStart => exact ⟨rfl, rfl, rfl⟩
     case round =>
      obtain ⟨rfl, rfl, rfl⟩ := hrel;obtain ⟨_, _, _, _, _, _, _, _, _, _, _, _, _, k13, kl⟩ := HCE.out _ HWN.out
      by_cases h0 : 0 < nums.length
      ·have d1 : decide (0 < (nums.length : Int)) = true := decide_eq_true (by omega);clear hWN;go_wp2_with fail;go_roundw
       case rel => exact ⟨k + 1, by omega, by go_num, HTX.out, HWN.out⟩
       case measure => simp [intOf]; omega
      ·have d1 : decide (0 < (nums.length : Int)) = false := decide_eq_false (by omega);clear hWN;go_wp2_with fail;go_roundw
       case rel => exact ⟨k + 1, by omega, by go_num, HTX.out, HWN.out⟩
       case measure => simp [intOf]; omega
    ·have hv : ((s[k].toNat : Nat) : Int) = 78 := by rw [hat]; rfl
     clear hat
     have he := HE78.out;have HBL : Hid (∀ j, Lw 7000 (B4 ++ (nums.take j).map Lib.itoa)) := hJz fun j => HB4L.out.takeMore H6.out HNL.out;go_wp2_with fail;clear k0 k1 k2 k3 k4 k5 k6 k7 k8 k9 k10 k11 k12 k13 kl;go_loopw [4, 8] (fun sv iv wr => ∃ (j : Nat), j ≤ nums.length ∧ iv = .int .i64 (j : Int) ∧ sv = .string (S8 (Lib.join (B4 ++ (nums.take j).map Lib.itoa) [32])) ∧ Below W1.heap.size W1 wr) (fun _ iv _ => nums.length - (intOf iv).toNat)
     case atStart => exact ⟨0, by omega, rfl, by rw [← HT.out]; simp, HW4.out⟩
     case round =>
      clear HW4;obtain ⟨j, hj1, rfl, rfl, hW5⟩ := hrel;obtain ⟨_, _, _, _, _, _, _, _, _, _, _, _, _, k13, kl⟩ := HCE.out _ hW5
      by_cases hj : j < nums.length
      ·have d1 : decide ((j : Int) < (nums.length : Int)) = true := decide_eq_true (by omega);have hj0 : (0 : Int) ≤ (j : Int) := by omega
       have hji : (j : Int) < (nums.length : Int) := by omega
       obtain ⟨b2, o2, hA2, c0⟩ := (HSN.out wr (HKY.out wr hW5).2).int hj;obtain ⟨x, hx⟩ : ∃ x, nums[j] = x := ⟨_, rfl⟩;have hmem : x ∈ nums := by rw [← hx]; exact List.getElem_mem hj
       have hTJ2 : B4 ++ (nums.take (j + 1)).map Lib.itoa = (B4 ++ (nums.take j).map Lib.itoa) ++ [Lib.itoa x] := by rw [take_snoc nums j hj, List.map_append, ← List.append_assoc, hx]; rfl
       have HNM := hJz (HNR.out x hmem);rw [hx] at c0;have hl2 := itoa_len x (H6.out x hmem);have hTl2 := join_len (HBL.out j) (by omega);have hne : B4 ++ (nums.take j).map Lib.itoa ≠ [] := by have := HTN.out; simp [this]
       obtain ⟨D, hD⟩ : ∃ D, Lib.itoa x = D := ⟨_, rfl⟩;rw [hD] at HNM hl2 hTJ2;obtain ⟨T2, hT2⟩ : ∃ T, Lib.join (B4 ++ (nums.take j).map Lib.itoa) [32] = T := ⟨_, rfl⟩;obtain ⟨X1, hX1⟩ : ∃ X, T2 ++ [32] = X := ⟨_, rfl⟩;obtain ⟨X2, hX2⟩ : ∃ X, X1 ++ D = X := ⟨_, rfl⟩;rw [hT2] at hTl2 ⊢;have lX1 : X1.length = T2.length + 1 := by rw [← hX1]; simp
       have ad0 : ∀ W, (Op.stringOp .add (S8 T2) (⟨#[32]⟩ : ByteArray)).run Tryz.prog W = .ok (.string (S8 X1)) W := by rw [← hX1]; exact add_strW T2 [32] (by simp only [List.length_cons, List.length_nil]; omega)
       have ad1 : ∀ W, (Op.stringOp .add (S8 X1) (S8 D)).run Tryz.prog W = .ok (.string (S8 X2)) W := by rw [← hX2]; exact add_strW X1 D (by omega)
       have HTX : Hid (Value.string (S8 X2) = .string (S8 (Lib.join (B4 ++ (nums.take (j + 1)).map Lib.itoa) [32]))) := hJz (by
        rw [hTJ2, join_more _ _ hne, hT2, ← hX2, ← hX1]; simp [jn])
       have HW5 := hJz hW5;subst hA2;clear hx hTJ2 hD hT2 hX1 hX2 lX1 hTl2 hl2 hmem hne hW5;go_wp2_with fail;refine (HNM.out _).mono ?_;rintro e y1 ⟨rfl, hb1⟩;have hWN := since_step HW5.out hb1;clear k13 kl c0 hb1;go_wp2_with fail;go_roundw
       case rel => exact ⟨j + 1, by omega, by go_num, HTX.out, hWN⟩
       case measure => simp [intOf]; omega
      ·obtain rfl : j = nums.length := by omega
       have d1 : decide ((nums.length : Int) < (nums.length : Int)) = false := decide_eq_false (by omega);have HTX : Hid (Value.string (S8 (Lib.join (B4 ++ (nums.take nums.length).map Lib.itoa) [32])) = .string (S8 (Lib.join (WB :: N1 :: (L.take (k + 1)).flatMap (fldW Z nums)) [32]))) := hJz (by rw [HTJ.out, he, List.take_length]);have HW5 := hJz hW5;obtain ⟨T2, hT2⟩ : ∃ T, Lib.join (B4 ++ (nums.take nums.length).map Lib.itoa) [32] = T := ⟨_, rfl⟩;rw [hT2] at HTX ⊢;clear hW5 hT2 he;go_wp2_with fail;go_roundw
       case rel => exact ⟨k + 1, by omega, by go_num, HTX.out, HW5.out⟩
       case measure => simp [intOf]; omega
   ·obtain rfl : k = s.size := by omega
    rw [List.take_of_length_le (by have := HSZ.out; omega), ← HL2.out];have hB9 := (HKY.out wr hW4).2;clear hW4;go_wp2_with fail;go_ret2;exact ⟨rfl, hB9⟩
  
end
end Go.Proofs.YtpmnjojednbnpaaGreatDoor
