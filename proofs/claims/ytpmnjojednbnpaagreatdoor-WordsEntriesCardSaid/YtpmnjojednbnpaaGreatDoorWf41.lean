import Derived.Test.YtpmnjojednbnpaaGreatDoorWf35
import Derived.Test.YtpmnjojednbnpaaGreatDoorWf38
import Derived.Test.YtpmnjojednbnpaaGreatDoorWf40
import Derived.Test.YtpmnjojednbnpaaGreatDoorWf34
set_option maxHeartbeats 16000000
set_option maxRecDepth 100000
set_option linter.unusedVariables false
set_option linter.unusedSimpArgs false
namespace Go.Proofs.YtpmnjojednbnpaaGreatDoor
open Go.ChangeShapes Go.WideShapes Go.ChangeAt Go.RowKit
section
theorem rsamen_self (A B : Option Addr) (ca cb : Nat) (l : List Int) (w : World) (hl : l.length ≤ 1000) (ha : Sl w A (ints .i64 l)) (hb : Sl w B (ints .i64 l)) :
  Calls Tryz.prog 45 #[.slice A l.length ca, .slice B l.length cb] w fun e w' => e = .returned (.bool true) ∧ Below w.heap.size w w' := by
 have hne : ((l.length : Int) != (l.length : Int)) = false := by simp
 have HA := hJz (fun V (hV : Below w.heap.size w V) k (hk : k < l.length) => (ha.below hV).int hk);have HB := hJz (fun V (hV : Below w.heap.size w V) k (hk : k < l.length) => (hb.below hV).int hk);clear ha hb;go_enter Tryz.func45, Tryz.ntmps45;go_wp2_with fail;go_loopw [5] (fun iv wr => ∃ k : Nat, k ≤ l.length ∧ iv = .int .i64 (k : Int) ∧ Below w.heap.size w wr) (fun iv _ => l.length - (intOf iv).toNat)
 case atStart => exact ⟨0, by omega, rfl, Below.refl _ _⟩
 case round =>
  obtain ⟨k, hk, rfl, hBw⟩ := hrel
  by_cases hkl : k < l.length
  ·have hk1 : (k : Int) < (l.length : Int) := by omega
   have hk0 : (0 : Int) ≤ (k : Int) := by omega
   obtain ⟨b1, o1, rfl, h1⟩ := HA.out wr hBw k hkl;obtain ⟨b2, o2, rfl, h2⟩ := HB.out wr hBw k hkl;obtain ⟨n, hn⟩ : ∃ n, l[k] = n := ⟨_, rfl⟩;rw [hn] at h1 h2;have hnn : (n != n) = false := by simp
   have HBw := hJz hBw;clear hn hBw;go_upto_region 6 with fail;go_quiet (fail);have hB2 := below_drewN HBw.out nq;go_wp2_with fail;go_roundw
   case rel => exact ⟨k + 1, by omega, by go_num, hB2⟩
   case measure => simp [intOf]; omega
  ·obtain rfl : k = l.length := by omega
   go_wp2_with fail;go_ret;exact ⟨rfl, hBw⟩
theorem rsame34 (z0 z1 z2 z3 z4 z5 z6 z7 z8 z9 z10 z11 z12 : Int) (A B : Option Addr) (ca cb : Nat) (l : List Int) (w : World) (hl : l.length ≤ 1000) (ha : Sl w A (ints .i64 l)) (hb : Sl w B (ints .i64 l)) :
  Calls Tryz.prog 12 #[.agg #[.int .i64 z0, .int .i64 z1, .int .i64 z2, .int .i64 z3, .int .i64 z4, .int .i64 z5, .int .i64 z6, .int .i64 z7, .int .i64 z8, .int .i64 z9, .int .i64 z10, .int .i64 z11, .int .i64 z12, .slice A l.length ca], .agg #[.int .i64 z0, .int .i64 z1, .int .i64 z2, .int .i64 z3, .int .i64 z4, .int .i64 z5, .int .i64 z6, .int .i64 z7, .int .i64 z8, .int .i64 z9, .int .i64 z10, .int .i64 z11, .int .i64 z12, .slice B l.length cb]] w fun e w' => e = .returned (.bool true) ∧ Below w.heap.size w w' := by
 have hb0 := since_step (since_alloc (Below.refl _ w) (.cells #[.int .i64 z0, .int .i64 z1, .int .i64 z2, .int .i64 z3, .int .i64 z4, .int .i64 z5, .int .i64 z6, .int .i64 z7, .int .i64 z8, .int .i64 z9, .int .i64 z10, .int .i64 z11, .int .i64 z12, .slice A l.length ca] 26)) (since_alloc (Below.refl _ (w.alloc (.cells #[.int .i64 z0, .int .i64 z1, .int .i64 z2, .int .i64 z3, .int .i64 z4, .int .i64 z5, .int .i64 z6, .int .i64 z7, .int .i64 z8, .int .i64 z9, .int .i64 z10, .int .i64 z11, .int .i64 z12, .slice A l.length ca] 26))) (.cells #[.int .i64 z0, .int .i64 z1, .int .i64 z2, .int .i64 z3, .int .i64 z4, .int .i64 z5, .int .i64 z6, .int .i64 z7, .int .i64 z8, .int .i64 z9, .int .i64 z10, .int .i64 z11, .int .i64 z12, .slice B l.length cb] 26));have HSN := hJz (rsamen_self A B ca cb l _ hl (ha.below hb0) (hb.below hb0));have HB0 := hJz hb0;clear hb0 ha hb;go_enter Tryz.func12, Tryz.ntmps12;go_wp2_with fail;refine HSN.out.mono ?_;rintro e v1 ⟨rfl, hb1⟩;have hB1 := since_step HB0.out hb1;go_wp2_with fail;go_ret;exact ⟨rfl, hB1⟩
theorem rdS_len : ∀ (l : List (Nat × Int)) (z : List Int) (s : Rs), (rdS l z s).1.length = z.length
 | [], _, _ => rfl
 | p :: r, z, s => by
  show (rdS r (z.set p.1 (rdM s).1) (rdM s).2).1.length = z.length
  rw [rdS_len, List.length_set]
theorem rdF_len : ∀ (l : List Nat) (d : Dc), (rdF l d).z.length = d.z.length
 | [], _ => rfl
 | f :: r, d => by
  rw [rdF_cons, rdF_len];unfold rdF1
  split
  ·rfl
  ·exact rdS_len _ _ _
theorem decC_len (bs : List Nat) : (decC bs).z.length = 13 := by
 unfold decC;rw [rdF_len]; rfl
theorem okE_okD (bs : List Nat) : okE (decC bs) = okD (decC bs) := by
 unfold okE okD;rw [ok_is (decC_len bs)]
theorem rdS_in : ∀ (l : List (Nat × Int)) (z : List Int) (s : Rs), (∀ i, In64p (z.getD i 0)) → ∀ i, In64p ((rdS l z s).1.getD i 0)
 | [], _, _, h => h
 | p :: r, z, s, h => by
  refine rdS_in r _ _ (fun i => ?_);rw [List.getD_eq_getElem?_getD, List.getElem?_set]
  split
  ·split
   ·exact rdM_in s
   ·simp; exact ⟨by decide, by decide⟩
  ·rw [← List.getD_eq_getElem?_getD]; exact h i
theorem rdNs_in : ∀ k (s : Rs), ∀ x ∈ (rdNs k s).1, In64p x
 | 0, s, x, hx => by cases hx
 | k + 1, s, x, hx => by
  rcases List.mem_cons.1 hx with rfl | hx
  ·exact rdM_in s
  ·exact rdNs_in k _ x hx
theorem rdF_in : ∀ (l : List Nat) (d : Dc), (∀ i, In64p (d.z.getD i 0)) → (∀ x ∈ d.nums, In64p x) → (∀ i, In64p ((rdF l d).z.getD i 0)) ∧ ∀ x ∈ (rdF l d).nums, In64p x
 | [], d, h, g => ⟨h, g⟩
 | f :: r, d, h, g => by
  rw [rdF_cons]
  refine rdF_in r _ ?_ ?_
  ·unfold rdF1
   split
   ·exact h
   ·exact rdS_in _ _ _ h
  ·unfold rdF1
   split
   ·exact rdNs_in _ _
   ·exact g
theorem decC_in (bs : List Nat) : (∀ i, In64p ((decC bs).z.getD i 0)) ∧ ∀ x ∈ (decC bs).nums, In64p x := by
 unfold decC;refine rdF_in _ _ (fun i => ?_) (fun x hx => by cases hx)
 match i with
 | 0 => exact rdM_in _
 | 1 => exact rdM_in _
 | i + 2 =>
  have : ∀ j, (List.replicate 11 (0 : Int)).getD j 0 = 0 := fun j => by
   rw [List.getD_eq_getElem?_getD, List.getElem?_replicate]
   split <;> rfl
  have h2 := this i;rw [List.getD_cons_succ, List.getD_cons_succ];have e : ([0, 0, 0, 0, 0, 0, 0, 0, 0, 0, 0] : List Int) = List.replicate 11 0 := rfl;rw [e, h2];exact ⟨by decide, by decide⟩
theorem rc_oct34 (l : List Nat) : rc (fun n : Nat => [Value.int .u8 (n : Int)]) l = by8 l := by
 unfold rc by8
 induction l with
 | nil => rfl
 | cons a l ih => simp only [List.map_cons, List.flatten_cons, ih]; rfl
theorem rd_oct34 {w : World} {r : List Value} (h : Rd w (.int .u8) r) : ∃ n : Nat, r = [.int .u8 (n : Int)] ∧ n < 256 := by
 obtain ⟨n, rfl, hn⟩ := h;have := bd_u8 hn;exact ⟨n.toNat, by rw [show ((n.toNat : Nat) : Int) = n by omega], by omega⟩
theorem rd_bytes {w : World} {A : Option Addr} {n c : Nat} (h : Rd w (.sl (.int .u8)) [.slice A n c]) : ∃ l : List Nat, l.length = n ∧ n ≤ c ∧ c ≤ maxLen ∧ Sl w A (by8 l) ∧ Oct l := by
 obtain ⟨l8, h1, h2, h3, h4, h5⟩ := rd_rowsP (f := fun n : Nat => [Value.int .u8 (n : Int)]) (fun r => rd_oct34) h;rw [rc_oct34] at h4;exact ⟨l8, h1, h2, h3, h4, h5⟩
end
section
theorem rparse40 (l : List UInt8) (w : World) (hl : l.length ≤ 900) :
  Calls Tryz.prog 11 #[.string (S8 l)] w fun e w' => PRes w' e (okP l) (parseZ l).z (parseZ l).nums ∧ Below w.heap.size w w' := by
 refine (rparseD l w hl).mono fun e w' h => ⟨?_, h.2⟩;have h1 := h.1;rw [docC_ok] at h1;unfold PRes
 by_cases hk : okP l = true
 ·rw [if_pos hk] at h1 ⊢;exact h1
 ·rw [if_neg hk] at h1 ⊢;exact h1
def tLive : List UInt8 := [116, 114, 97, 100, 101, 32, 48, 32, 50, 46, 49, 32, 51, 46, 48, 32, 49, 32, 52, 32, 54]
theorem live_line : lineB [7, 0, 0, 2, 1, 3, 0, 1, 0, 0, 0, 4, 6] [] = tLive := by decide +kernel
theorem live_ok : okZ [7, 0, 0, 2, 1, 3, 0, 1, 0, 0, 0, 4, 6] 0 = true := by decide +kernel
theorem live_in : ∀ i, In64p (([7, 0, 0, 2, 1, 3, 0, 1, 0, 0, 0, 4, 6] : List Int).getD i 0) := by
 intro i
 match i with
 | 0 | 1 | 2 | 3 | 4 | 5 | 6 | 7 | 8 | 9 | 10 | 11 | 12 => exact ⟨by decide, by decide⟩
 | k + 13 => exact ⟨by show (-9223372036854775808 : Int) ≤ 0; decide, by show (0 : Int) ≤ 9223372036854775807; decide⟩
theorem pres_ok {w' : World} {e : Ending} {ok : Bool} {z nums : List Int} (h : PRes w' e ok z nums) (hk : ok = true) : ∃ A c, e = .returned (.tuple #[.agg (cbox z (.slice A nums.length c)), .int .i64 0]) ∧ nums.length ≤ c ∧ c ≤ maxLen ∧ Sl w' A (ints .i64 nums) := by
 unfold PRes at h;rw [if_pos hk] at h;exact h
theorem lives40_any (w : World) (hE : EvB w.heap.size w) : Calls Tryz.prog 16 #[] w fun e w' => e = .returned (.bool true) ∧ Below w.heap.size w w' := by
 have hal := since_alloc (Below.refl _ w) (.cells #[.int .i64 7, .int .i64 0, .int .i64 0, .int .i64 2, .int .i64 1, .int .i64 3, .int .i64 0, .int .i64 1, .int .i64 0, .int .i64 0, .int .i64 0, .int .i64 4, .int .i64 6, .slice none 0 0] 26);have hx := heap_alloc_new w (.cells #[.int .i64 7, .int .i64 0, .int .i64 0, .int .i64 2, .int .i64 1, .int .i64 3, .int .i64 0, .int .i64 1, .int .i64 0, .int .i64 0, .int .i64 0, .int .i64 4, .int .i64 6, .slice none 0 0] 26);obtain ⟨b, hb⟩ : ∃ b, w.heap.size = b := ⟨_, rfl⟩;obtain ⟨W1, hW1⟩ : ∃ W1, w.alloc (.cells #[.int .i64 7, .int .i64 0, .int .i64 0, .int .i64 2, .int .i64 1, .int .i64 3, .int .i64 0, .int .i64 1, .int .i64 0, .int .i64 0, .int .i64 0, .int .i64 4, .int .i64 6, .slice none 0 0] 26) = W1 := ⟨_, rfl⟩;rw [hW1] at hal hx;rw [hb] at hal hx hE ⊢;have HB := hJz hb;have HW1 := hJz hW1;have hlt := (Array.getElem?_eq_some_iff.1 hx).1
 have HEV : Hid (∀ V, Below W1.heap.size W1 V → EvB V.heap.size V ∧ Below b w V ∧ V.heap[b]? = some (.cells #[.int .i64 7, .int .i64 0, .int .i64 0, .int .i64 2, .int .i64 1, .int .i64 3, .int .i64 0, .int .i64 1, .int .i64 0, .int .i64 0, .int .i64 0, .int .i64 4, .int .i64 6, .slice none 0 0] 26 (0, 0))) := hJz fun V hV => by
  have h1 := hal.trans (hV.mono (by omega));have hs := hV.size;exact ⟨(hE.on h1).up (by omega), h1, (hV.block b hlt).trans hx⟩
 have hLI := wlineE 7 0 0 2 1 3 0 1 0 0 0 4 6 none 0 [] W1 (by simp) live_in (fun x hx => by cases hx) Sl.nil (HEV.out W1 (Below.refl _ _)).1
 have hli2 : (if okZ [7, 0, 0, 2, 1, 3, 0, 1, 0, 0, 0, 4, 6] ([] : List Int).length = true then #[Value.string (S8 (lineB [7, 0, 0, 2, 1, 3, 0, 1, 0, 0, 0, 4, 6] [])), .int .i64 0] else #[.string (S8 []), .int .i64 3]) = #[.string (S8 tLive), .int .i64 0] := by
  rw [live_line];exact if_pos live_ok
 rw [hli2] at hLI;have HLI := hJz hLI;have hpl := parse_line (z := [7, 0, 0, 2, 1, 3, 0, 1, 0, 0, 0, 4, 6]) (nums := []) rfl live_in (fun x hx => by cases hx) live_ok;rw [live_line] at hpl;have HPL := hJz hpl;have htl : tLive.length ≤ 900 := by decide
 have HPA := hJz (fun V (h : EvB V.heap.size V) => rparseP tLive V htl h);have hse : (S8 tLive).toList = [116, 114, 97, 100, 101, 32, 48, 32, 50, 46, 49, 32, 51, 46, 48, 32, 49, 32, 52, 32, 54] := by rw [ByteArray.toList_eq, S8_data]; rfl
 have k0 : W1.cell? ⟨b, 0, none⟩ = some (.int .i64 7) := (cell_of_row W1 b 0 _ _ (0, 0) hx).trans rfl;have k1 : W1.cell? ⟨b, 1, none⟩ = some (.int .i64 0) := (cell_of_row W1 b 1 _ _ (0, 0) hx).trans rfl;have k2 : W1.cell? ⟨b, 2, none⟩ = some (.int .i64 0) := (cell_of_row W1 b 2 _ _ (0, 0) hx).trans rfl;have k3 : W1.cell? ⟨b, 3, none⟩ = some (.int .i64 2) := (cell_of_row W1 b 3 _ _ (0, 0) hx).trans rfl;have k4 : W1.cell? ⟨b, 4, none⟩ = some (.int .i64 1) := (cell_of_row W1 b 4 _ _ (0, 0) hx).trans rfl;have k5 : W1.cell? ⟨b, 5, none⟩ = some (.int .i64 3) := (cell_of_row W1 b 5 _ _ (0, 0) hx).trans rfl;have k6 : W1.cell? ⟨b, 6, none⟩ = some (.int .i64 0) := (cell_of_row W1 b 6 _ _ (0, 0) hx).trans rfl;have k7 : W1.cell? ⟨b, 7, none⟩ = some (.int .i64 1) := (cell_of_row W1 b 7 _ _ (0, 0) hx).trans rfl;have k8 : W1.cell? ⟨b, 8, none⟩ = some (.int .i64 0) := (cell_of_row W1 b 8 _ _ (0, 0) hx).trans rfl;have k9 : W1.cell? ⟨b, 9, none⟩ = some (.int .i64 0) := (cell_of_row W1 b 9 _ _ (0, 0) hx).trans rfl;have k10 : W1.cell? ⟨b, 10, none⟩ = some (.int .i64 0) := (cell_of_row W1 b 10 _ _ (0, 0) hx).trans rfl;have k11 : W1.cell? ⟨b, 11, none⟩ = some (.int .i64 4) := (cell_of_row W1 b 11 _ _ (0, 0) hx).trans rfl;have k12 : W1.cell? ⟨b, 12, none⟩ = some (.int .i64 6) := (cell_of_row W1 b 12 _ _ (0, 0) hx).trans rfl;have k13 : W1.cell? ⟨b, 13, none⟩ = some (.slice none 0 0) := (cell_of_row W1 b 13 _ _ (0, 0) hx).trans rfl;have kl := (Array.getElem?_eq_some_iff.1 hx).1;clear hal hx hb hW1 hlt hE hLI hli2 hpl htl;go_enter Tryz.func16, Tryz.ntmps16;go_upto_region 2 with fail;rw [HW1.out, HB.out];go_wp2_with fail;refine HLI.out.mono ?_;rintro e y1 ⟨rfl, hb1⟩;have HP := hJz (HPA.out y1 (HEV.out y1 hb1).1);have HB1 := hJz hb1;clear hb1 k0 k1 k2 k3 k4 k5 k6 k7 k8 k9 k10 k11 k12 k13 kl;go_wp2_with fail;refine HP.out.mono ?_;rintro e y2 ⟨hp2, hb2⟩;obtain ⟨h1, h2, h3⟩ := HPL.out;obtain ⟨A2, c2, rfl, _, _, hs2⟩ := pres_ok hp2 h1;rw [h3] at hs2;rw [h2, h3];have e0 : Value.agg (cbox [7, 0, 0, 2, 1, 3, 0, 1, 0, 0, 0, 4, 6] (.slice A2 ([] : List Int).length c2)) = .agg #[.int .i64 7, .int .i64 0, .int .i64 0, .int .i64 2, .int .i64 1, .int .i64 3, .int .i64 0, .int .i64 1, .int .i64 0, .int .i64 0, .int .i64 0, .int .i64 4, .int .i64 6, .slice A2 0 c2] := rfl;rw [e0];clear h1 h2 h3 hp2 e0;have hb3 := since_step HB1.out hb2;have hal := since_alloc (Below.refl _ y2) (.cells #[.int .i64 7, .int .i64 0, .int .i64 0, .int .i64 2, .int .i64 1, .int .i64 3, .int .i64 0, .int .i64 1, .int .i64 0, .int .i64 0, .int .i64 0, .int .i64 4, .int .i64 6, .slice A2 0 c2] 26);have hxx := heap_alloc_new y2 (.cells #[.int .i64 7, .int .i64 0, .int .i64 0, .int .i64 2, .int .i64 1, .int .i64 3, .int .i64 0, .int .i64 1, .int .i64 0, .int .i64 0, .int .i64 0, .int .i64 4, .int .i64 6, .slice A2 0 c2] 26);obtain ⟨xb, hxb⟩ : ∃ xb, y2.heap.size = xb := ⟨_, rfl⟩;obtain ⟨Y3, hY3⟩ : ∃ Y3, y2.alloc (.cells #[.int .i64 7, .int .i64 0, .int .i64 0, .int .i64 2, .int .i64 1, .int .i64 3, .int .i64 0, .int .i64 1, .int .i64 0, .int .i64 0, .int .i64 0, .int .i64 4, .int .i64 6, .slice A2 0 c2] 26) = Y3 := ⟨_, rfl⟩;have hb4 := since_step hb3 hal;have hs3 := hs2.below hal;rw [hxb] at hxx;rw [hY3] at hxx hb4 hs3;have HXB := hJz hxb;have HY3 := hJz hY3;obtain ⟨_, hB4, hx4⟩ := HEV.out Y3 hb4;have HSA := hJz (rsame34 7 0 0 2 1 3 0 1 0 0 0 4 6 A2 none c2 0 [] Y3 (by simp) (by simpa using hs3) Sl.nil);have HBY : Hid (∀ V, Below Y3.heap.size Y3 V → Below b w V) := hJz fun V hV => hB4.trans (hV.mono (Nat.le_of_lt (Array.getElem?_eq_some_iff.1 hx4).1));have k0 : Y3.cell? ⟨b, 0, none⟩ = some (.int .i64 7) := (cell_of_row Y3 b 0 _ _ (0, 0) hx4).trans rfl;have k1 : Y3.cell? ⟨b, 1, none⟩ = some (.int .i64 0) := (cell_of_row Y3 b 1 _ _ (0, 0) hx4).trans rfl;have k2 : Y3.cell? ⟨b, 2, none⟩ = some (.int .i64 0) := (cell_of_row Y3 b 2 _ _ (0, 0) hx4).trans rfl;have k3 : Y3.cell? ⟨b, 3, none⟩ = some (.int .i64 2) := (cell_of_row Y3 b 3 _ _ (0, 0) hx4).trans rfl;have k4 : Y3.cell? ⟨b, 4, none⟩ = some (.int .i64 1) := (cell_of_row Y3 b 4 _ _ (0, 0) hx4).trans rfl;have k5 : Y3.cell? ⟨b, 5, none⟩ = some (.int .i64 3) := (cell_of_row Y3 b 5 _ _ (0, 0) hx4).trans rfl;have k6 : Y3.cell? ⟨b, 6, none⟩ = some (.int .i64 0) := (cell_of_row Y3 b 6 _ _ (0, 0) hx4).trans rfl;have k7 : Y3.cell? ⟨b, 7, none⟩ = some (.int .i64 1) := (cell_of_row Y3 b 7 _ _ (0, 0) hx4).trans rfl;have k8 : Y3.cell? ⟨b, 8, none⟩ = some (.int .i64 0) := (cell_of_row Y3 b 8 _ _ (0, 0) hx4).trans rfl;have k9 : Y3.cell? ⟨b, 9, none⟩ = some (.int .i64 0) := (cell_of_row Y3 b 9 _ _ (0, 0) hx4).trans rfl;have k10 : Y3.cell? ⟨b, 10, none⟩ = some (.int .i64 0) := (cell_of_row Y3 b 10 _ _ (0, 0) hx4).trans rfl;have k11 : Y3.cell? ⟨b, 11, none⟩ = some (.int .i64 4) := (cell_of_row Y3 b 11 _ _ (0, 0) hx4).trans rfl;have k12 : Y3.cell? ⟨b, 12, none⟩ = some (.int .i64 6) := (cell_of_row Y3 b 12 _ _ (0, 0) hx4).trans rfl;have k13 : Y3.cell? ⟨b, 13, none⟩ = some (.slice none 0 0) := (cell_of_row Y3 b 13 _ _ (0, 0) hx4).trans rfl;have kl := (Array.getElem?_eq_some_iff.1 hx4).1;have x0 : Y3.cell? ⟨xb, 0, none⟩ = some (.int .i64 7) := (cell_of_row Y3 xb 0 _ _ (0, 0) hxx).trans rfl;have x1 : Y3.cell? ⟨xb, 1, none⟩ = some (.int .i64 0) := (cell_of_row Y3 xb 1 _ _ (0, 0) hxx).trans rfl;have x2 : Y3.cell? ⟨xb, 2, none⟩ = some (.int .i64 0) := (cell_of_row Y3 xb 2 _ _ (0, 0) hxx).trans rfl;have x3 : Y3.cell? ⟨xb, 3, none⟩ = some (.int .i64 2) := (cell_of_row Y3 xb 3 _ _ (0, 0) hxx).trans rfl;have x4 : Y3.cell? ⟨xb, 4, none⟩ = some (.int .i64 1) := (cell_of_row Y3 xb 4 _ _ (0, 0) hxx).trans rfl;have x5 : Y3.cell? ⟨xb, 5, none⟩ = some (.int .i64 3) := (cell_of_row Y3 xb 5 _ _ (0, 0) hxx).trans rfl;have x6 : Y3.cell? ⟨xb, 6, none⟩ = some (.int .i64 0) := (cell_of_row Y3 xb 6 _ _ (0, 0) hxx).trans rfl;have x7 : Y3.cell? ⟨xb, 7, none⟩ = some (.int .i64 1) := (cell_of_row Y3 xb 7 _ _ (0, 0) hxx).trans rfl;have x8 : Y3.cell? ⟨xb, 8, none⟩ = some (.int .i64 0) := (cell_of_row Y3 xb 8 _ _ (0, 0) hxx).trans rfl;have x9 : Y3.cell? ⟨xb, 9, none⟩ = some (.int .i64 0) := (cell_of_row Y3 xb 9 _ _ (0, 0) hxx).trans rfl;have x10 : Y3.cell? ⟨xb, 10, none⟩ = some (.int .i64 0) := (cell_of_row Y3 xb 10 _ _ (0, 0) hxx).trans rfl;have x11 : Y3.cell? ⟨xb, 11, none⟩ = some (.int .i64 4) := (cell_of_row Y3 xb 11 _ _ (0, 0) hxx).trans rfl;have x12 : Y3.cell? ⟨xb, 12, none⟩ = some (.int .i64 6) := (cell_of_row Y3 xb 12 _ _ (0, 0) hxx).trans rfl;have x13 : Y3.cell? ⟨xb, 13, none⟩ = some (.slice A2 0 c2) := (cell_of_row Y3 xb 13 _ _ (0, 0) hxx).trans rfl;have xl := (Array.getElem?_eq_some_iff.1 hxx).1;clear hb2 hs2 hb3 hal hxb hY3 hb4 hs3 hxx hx4 hB4 HP;go_upto_region 4 with fail;rw [HY3.out, HXB.out];go_wp2_with fail;refine HSA.out.mono ?_;rintro e y4 ⟨rfl, hb5⟩;have hB5 := HBY.out y4 hb5;go_wp2_with fail;go_ret;exact ⟨rfl, hB5⟩
end
section
theorem jn_len {m : Nat} : ∀ (L : List (List UInt8)), (∀ x ∈ L, x.length ≤ m) → (jn L).length ≤ (m + 1) * L.length
 | [], _ => by simp [jn]
 | x :: r, h => by
  have h1 := h x (by simp);have h2 := jn_len r fun y hy => h y (by simp [hy]);have e : jn (x :: r) = 32 :: x ++ jn r := by simp [jn]
  rw [e, List.length_append, List.length_cons, List.length_cons, Nat.mul_add];omega
def cstW (f : Nat) : Nat := if f = 78 then 704 else if f = 85 ∨ f = 79 then 44 else 22
theorem fldW_cst {z nums : List Int} (hz : ∀ i, In64p (z.getD i 0)) (h6 : ∀ x ∈ nums, In64p x) (hn : nums.length ≤ 32) {op : Int} {f : Nat} (hf : f ∈ fldL op) : (jn (fldW z nums f)).length ≤ cstW f := by
 have hi := fun i => itoa_len _ (hz i)
 by_cases h78 : f = 78
 ·subst h78
  have h1 := jn_len (m := 21) (nums.map Lib.itoa) fun x hx => by
   obtain ⟨n, hn, rfl⟩ := List.mem_map.1 hx;exact itoa_len n (h6 n hn)
  rw [List.length_map] at h1;have e : fldW z nums 78 = nums.map Lib.itoa := by unfold fldW; rw [if_pos rfl]
  rw [e];have : 22 * nums.length ≤ 704 := by omega
  exact Nat.le_trans h1 (by unfold cstW; simpa using this)
 ·rcases fldL_memW op f hf with rfl | rfl | rfl | rfl | rfl | rfl | rfl | rfl | rfl | rfl
  ·have := hi 2; simp [fldW, slotL, Lib.join_one, jn, cstW] at *; omega
  ·have h1 := hi 3; have h2 := hi 4; simp [fldW, slotL, join_two, jn, cstW] at *; omega
  ·have h1 := hi 5; have h2 := hi 6; simp [fldW, slotL, join_two, jn, cstW] at *; omega
  ·have := hi 7; simp [fldW, slotL, Lib.join_one, jn, cstW] at *; omega
  ·have := hi 8; simp [fldW, slotL, Lib.join_one, jn, cstW] at *; omega
  ·have := hi 9; simp [fldW, slotL, Lib.join_one, jn, cstW] at *; omega
  ·have := hi 10; simp [fldW, slotL, Lib.join_one, jn, cstW] at *; omega
  ·have := hi 11; simp [fldW, slotL, Lib.join_one, jn, cstW] at *; omega
  ·have := hi 12; simp [fldW, slotL, Lib.join_one, jn, cstW] at *; omega
  ·exact absurd rfl h78
theorem flat_cst (z nums : List Int) : ∀ L : List Nat, (∀ f ∈ L, (jn (fldW z nums f)).length ≤ cstW f) → (jn (L.flatMap (fldW z nums))).length ≤ (L.map cstW).sum
 | [], _ => by simp [jn]
 | f :: L, h => by
  have h1 := h f (by simp);have h2 := flat_cst z nums L fun g hg => h g (by simp [hg]);have e : jn ((f :: L).flatMap (fldW z nums)) = jn (fldW z nums f) ++ jn (L.flatMap (fldW z nums)) := by simp [jn]
  rw [e, List.length_append, List.map_cons, List.sum_cons];omega
theorem line_len900 {z nums : List Int} (hz : ∀ i, In64p (z.getD i 0)) (h6 : ∀ x ∈ nums, In64p x) (hn : nums.length ≤ 32) : (lineB z nums).length ≤ 900 := by
 have h1 := flat_cst z nums (fldL (z.getD 0 0)) fun f hf => fldW_cst hz h6 hn hf
 have h2 : ((fldL (z.getD 0 0)).map cstW).sum ≤ 800 := by
  have h := fldL_cases (z.getD 0 0)
  rcases h with h | h | h | h | h | h | h | h | h | h | h | h | h | h | h <;> rw [h] <;> decide
 have h3 := wordB_len (z.getD 0 0);have h4 := itoa_len _ (hz 1);unfold lineB lineW;have e : jn (Lib.itoa (z.getD 1 0) :: (fldL (z.getD 0 0)).flatMap (fldW z nums)) = 32 :: Lib.itoa (z.getD 1 0) ++ jn ((fldL (z.getD 0 0)).flatMap (fldW z nums)) := by simp [jn]
 rw [join_jn, e, List.length_append, List.length_append, List.length_cons];omega
theorem short40 (l : List UInt8) (w : World) : Calls Tryz.prog 7 #[.string (S8 l)] w fun e w' => e = .returned (.string (S8 (l.take 300))) ∧ w' = w := by
 obtain ⟨s, hs⟩ : ∃ s, s = S8 l := ⟨_, rfl⟩;have hsz : s.size = l.length := by rw [hs]; exact S8_size l
 have HP : Hid (s.extract 0 300 = S8 (l.take 300)) := hJz (by rw [hs]; exact S8_pre l 300);have HSE := hJz hs;rw [← hs];clear hs
 by_cases h : 300 < l.length
 ·have hI : (300 : Int) < (l.length : Int) := by omega
  have h2 : (300 : Int) ≤ (l.length : Int) := by omega
  have hp := HP.out;go_enter Tryz.func7, Tryz.ntmps7;go_wp2_with fail;go_ret;exact ⟨rfl, rfl⟩
 ·have hI : ¬ (300 : Int) < (l.length : Int) := by omega
  have HT : Hid (s = S8 (l.take 300)) := hJz (by rw [HSE.out, List.take_of_length_le (by omega)]);go_enter Tryz.func7, Tryz.ntmps7;go_wp2_with fail;go_ret;exact ⟨by rw [← HT.out]; rfl, rfl⟩
def prE (ok : Bool) : Int := if ok = true then 0 else 3
theorem okP_len {l : List UInt8} (h : okP l = true) : (parseZ l).nums.length ≤ 32 := by
 unfold okP okZ at h;simp only [Bool.and_eq_true, decide_eq_true_eq] at h;exact h.2.1.1.1.1.2.2.2.2
end
end Go.Proofs.YtpmnjojednbnpaaGreatDoor
