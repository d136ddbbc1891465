import Derived.Test.YtpmnjojednbnpaaGreatDoorWr00
import Derived.Test.YtpmnjojednbnpaaGreatDoorWr01
import Derived.Test.YtpmnjojednbnpaaGreatDoorWr02
import Derived.Test.YtpmnjojednbnpaaGreatDoorWr03
import Derived.Test.YtpmnjojednbnpaaGreatDoorWr04
import Derived.Test.YtpmnjojednbnpaaGreatDoorWr05
import Derived.Test.YtpmnjojednbnpaaGreatDoorWr06
import Derived.Test.YtpmnjojednbnpaaGreatDoorWr07
import Derived.Test.YtpmnjojednbnpaaGreatDoorWr08
import Derived.Test.YtpmnjojednbnpaaGreatDoorWr09
import Derived.Test.YtpmnjojednbnpaaGreatDoorWr10
import Derived.Test.YtpmnjojednbnpaaGreatDoorWr11
import Derived.Test.YtpmnjojednbnpaaGreatDoorWr12
import Derived.Test.YtpmnjojednbnpaaGreatDoorWr13
import Derived.Test.YtpmnjojednbnpaaGreatDoorWr14
import Derived.Test.YtpmnjojednbnpaaGreatDoorWr15
import Derived.Test.YtpmnjojednbnpaaGreatDoorWr16
import Derived.Test.YtpmnjojednbnpaaGreatDoorWr17
import Derived.Test.YtpmnjojednbnpaaGreatDoorWr18
import Derived.Test.YtpmnjojednbnpaaGreatDoorWr19
import Derived.Test.YtpmnjojednbnpaaGreatDoorWr20
import Derived.Test.YtpmnjojednbnpaaGreatDoorWr21
import Derived.Test.YtpmnjojednbnpaaGreatDoorWr22
import Derived.Test.YtpmnjojednbnpaaGreatDoorWr23
import Derived.Test.YtpmnjojednbnpaaGreatDoorWl11
section
namespace Go.Proofs.YtpmnjojednbnpaaGreatDoor
open Go.ChangeShapes Go.WideShapes Go.ChangeAt Go.RowKit
set_option linter.unusedVariables false
set_option linter.unusedSimpArgs false

theorem jn_len {m : Nat} : ∀ (L : List (List UInt8)), (∀ x ∈ L, x.length ≤ m) → (jn L).length ≤ (m + 1) * L.length
  | [], _ => by simp [jn]
  | x :: r, h => by
    have h1 := h x (by simp)
    have h2 := jn_len r fun y hy => h y (by simp [hy])
    have e : jn (x :: r) = 32 :: x ++ jn r := by simp [jn]
    rw [e, List.length_append, List.length_cons, List.length_cons, Nat.mul_add]
    omega
def cstW (f : Nat) : Nat := if f = 78 then 704 else if f = 85 ∨ f = 79 then 44 else 22
theorem fldW_cst {z nums : List Int} (hz : ∀ i, In64p (z.getD i 0)) (h6 : ∀ x ∈ nums, In64p x) (hn : nums.length ≤ 32) {op : Int} {f : Nat} (hf : f ∈ fldL op) : (jn (fldW z nums f)).length ≤ cstW f := by
  have hi := fun i => itoa_len _ (hz i)
  by_cases h78 : f = 78
  · subst h78
    have h1 := jn_len (m := 21) (nums.map Lib.itoa) fun x hx => by
      obtain ⟨n, hn, rfl⟩ := List.mem_map.1 hx
      exact itoa_len n (h6 n hn)
    rw [List.length_map] at h1
    have e : fldW z nums 78 = nums.map Lib.itoa := by unfold fldW; rw [if_pos rfl]
    rw [e]
    have : 22 * nums.length ≤ 704 := by omega
    exact Nat.le_trans h1 (by unfold cstW; simpa using this)
  · rcases fldL_memW op f hf with rfl | rfl | rfl | rfl | rfl | rfl | rfl | rfl | rfl | rfl
    · have := hi 2; simp [fldW, slotL, Lib.join_one, jn, cstW] at *; omega
    · have h1 := hi 3; have h2 := hi 4; simp [fldW, slotL, join_two, jn, cstW] at *; omega
    · have h1 := hi 5; have h2 := hi 6; simp [fldW, slotL, join_two, jn, cstW] at *; omega
    · have := hi 7; simp [fldW, slotL, Lib.join_one, jn, cstW] at *; omega
    · have := hi 8; simp [fldW, slotL, Lib.join_one, jn, cstW] at *; omega
    · have := hi 9; simp [fldW, slotL, Lib.join_one, jn, cstW] at *; omega
    · have := hi 10; simp [fldW, slotL, Lib.join_one, jn, cstW] at *; omega
    · have := hi 11; simp [fldW, slotL, Lib.join_one, jn, cstW] at *; omega
    · have := hi 12; simp [fldW, slotL, Lib.join_one, jn, cstW] at *; omega
    · exact absurd rfl h78
theorem flat_cst (z nums : List Int) : ∀ L : List Nat, (∀ f ∈ L, (jn (fldW z nums f)).length ≤ cstW f) → (jn (L.flatMap (fldW z nums))).length ≤ (L.map cstW).sum
  | [], _ => by simp [jn]
  | f :: L, h => by
    have h1 := h f (by simp)
    have h2 := flat_cst z nums L fun g hg => h g (by simp [hg])
    have e : jn ((f :: L).flatMap (fldW z nums)) = jn (fldW z nums f) ++ jn (L.flatMap (fldW z nums)) := by simp [jn]
    rw [e, List.length_append, List.map_cons, List.sum_cons]
    omega
theorem line_len900 {z nums : List Int} (hz : ∀ i, In64p (z.getD i 0)) (h6 : ∀ x ∈ nums, In64p x) (hn : nums.length ≤ 32) : (lineB z nums).length ≤ 900 := by
  have h1 := flat_cst z nums (fldL (z.getD 0 0)) fun f hf => fldW_cst hz h6 hn hf
  have h2 : ((fldL (z.getD 0 0)).map cstW).sum ≤ 800 := by
    have h := fldL_cases (z.getD 0 0)
    rcases h with h | h | h | h | h | h | h | h | h | h | h | h | h | h | h <;> rw [h] <;> decide
  have h3 := wordB_len (z.getD 0 0)
  have h4 := itoa_len _ (hz 1)
  unfold lineB lineW
  have e : jn (Lib.itoa (z.getD 1 0) :: (fldL (z.getD 0 0)).flatMap (fldW z nums)) = 32 :: Lib.itoa (z.getD 1 0) ++ jn ((fldL (z.getD 0 0)).flatMap (fldW z nums)) := by simp [jn]
  rw [join_jn, e, List.length_append, List.length_append, List.length_cons]
  omega
theorem short40 (l : List UInt8) (w : World) : Calls Tryz.prog 7 #[.string (S8 l)] w fun e w' => e = .returned (.string (S8 (l.take 300))) ∧ w' = w := by
  obtain ⟨s, hs⟩ : ∃ s, s = S8 l := ⟨_, rfl⟩
  have hsz : s.size = l.length := by rw [hs]; exact S8_size l
  have HP : Hid (s.extract 0 300 = S8 (l.take 300)) := Lib.hid (by rw [hs]; exact S8_pre l 300)
  have HSE := Lib.hid hs
  rw [← hs]
  clear hs
  by_cases h : 300 < l.length
  · have hI : (300 : Int) < (l.length : Int) := by omega
    have h2 : (300 : Int) ≤ (l.length : Int) := by omega
    have hp := HP.out
    go_enter Tryz.func7, Tryz.ntmps7
    go_wp2_with fail
    go_ret
    exact ⟨rfl, rfl⟩
  · have hI : ¬ (300 : Int) < (l.length : Int) := by omega
    have HT : Hid (s = S8 (l.take 300)) := Lib.hid (by rw [HSE.out, List.take_of_length_le (by omega)])
    go_enter Tryz.func7, Tryz.ntmps7
    go_wp2_with fail
    go_ret
    exact ⟨by rw [← HT.out]; rfl, rfl⟩
def prZ (ok : Bool) (z : List Int) : List Int := if ok = true then z else [0, 0, 0, 0, 0, 0, 0, 0, 0, 0, 0, 0, 0]
def prN (ok : Bool) (nums : List Int) : List Int := if ok = true then nums else []
def prE (ok : Bool) : Int := if ok = true then 0 else 3
theorem pres_one {w' : World} {e : Ending} {ok : Bool} {z nums : List Int} (h : PRes w' e ok z nums) : ∃ A c, e = .returned (.tuple #[.agg (cbox (prZ ok z) (.slice A (prN ok nums).length c)), .int .i64 (prE ok)]) ∧ Sl w' A (ints .i64 (prN ok nums)) := by
  unfold PRes at h
  unfold prZ prN prE
  cases ok with
  | true =>
    rw [if_pos rfl] at h
    obtain ⟨A, c, e1, _, _, hs⟩ := h
    exact ⟨A, c, e1, hs⟩
  | false =>
    rw [if_neg (by decide)] at h
    exact ⟨none, 0, h, Sl.nil⟩
theorem prZ_len (ok : Bool) {z : List Int} (h : z.length = 13) : (prZ ok z).length = 13 := by
  unfold prZ
  split
  · exact h
  · rfl
theorem okP_len {l : List UInt8} (h : okP l = true) : (parseZ l).nums.length ≤ 32 := by
  unfold okP okZ at h
  simp only [Bool.and_eq_true, decide_eq_true_eq] at h
  exact h.2.1.1.1.1.2.2.2.2
theorem prN_len (l : List UInt8) : (prN (okP l) (parseZ l).nums).length ≤ 1000 := by
  unfold prN
  split
  · rename_i h
    have := okP_len h
    omega
  · simp
def lnB (ok : Bool) (z nums : List Int) : List UInt8 := if ok = true then lineB z nums else []
theorem line_one (ok : Bool) (z nums : List Int) : (if ok = true then #[Value.string (S8 (lineB z nums)), .int .i64 0] else #[.string (S8 []), .int .i64 3]) = #[.string (S8 (lnB ok z nums)), .int .i64 (prE ok)] := by
  unfold lnB prE
  cases ok <;> rfl
theorem wordB_ne {op : Int} (h : 1 ≤ op ∧ op ≤ 31) : wordB op ≠ [] := by
  have hm : wordB op ∈ opsW := by
    unfold wordB
    rw [if_pos h, List.getD_eq_getElem?_getD]
    have hl : (op - 1).toNat < opsW.length := by rw [opsW_len]; omega
    rw [List.getElem?_eq_getElem hl]
    exact List.getElem_mem hl
  have hall : ∀ l ∈ opsW, l ≠ [] := by decide +kernel
  exact hall _ hm
set_option maxHeartbeats 32000000 in
set_option maxRecDepth 100000 in
theorem walk_WordsLines (a0 : Array Value) (a1 : ByteArray) (a2 : Int) (w : World) (hE : EvB w.heap.size w) (w0 : Go.Proofs.YtpmnjojednbnpaaGreatDoor.Rd w (.cat (.int .i64) (.cat (.int .i64) (.cat (.int .i64) (.cat (.cat (.int .i64) (.cat (.int .i64) .nil)) (.cat (.cat (.int .i64) (.cat (.int .i64) .nil)) (.cat (.int .i64) (.cat (.int .i64) (.cat (.int .i64) (.cat (.int .i64) (.cat (.int .i64) (.cat (.int .i64) (.cat (.sl (.int .i64)) .nil)))))))))))) a0.toList) (w1 : a1.size ≤ maxLen) (w2 : (Lit.int .i64 a2).wf = true) :
    Calls Tryz.prog 3 #[.agg a0, .string a1, .int .i64 a2] w fun e w' => e = .returned (.bool true) ∧ Below w.heap.size w w' := by
  obtain ⟨z0, z1, z2, z3, z4, z5, z6, z7, z8, z9, z10, z11, z12, A, cap, nums, rfl, h6z, hnc, hcm, hsl, h6⟩ := rd_cmd w0
  obtain ⟨s0, hs0⟩ : ∃ s0 : List UInt8, a1 = S8 s0 := ⟨a1.data.toList, eq_S8 rfl⟩
  subst hs0
  have hop64 : In64p a2 := by
    have h := w2
    simp only [Lit.wf, Bool.and_eq_true, decide_eq_true_eq] at h
    exact ⟨h.1, h.2⟩
  obtain ⟨L, hL⟩ : ∃ L, nums.take 40 = L := ⟨_, rfl⟩
  obtain ⟨t, ht⟩ : ∃ t, s0.take 300 = t := ⟨_, rfl⟩
  have htl : t.length ≤ 300 := by rw [← ht, List.length_take]; omega
  have HT := Lib.hid (fun V => short40 s0 V)
  rw [ht] at HT
  have hmin : min nums.length 40 = L.length := by rw [← hL, List.length_take]; omega
  have hL40 : L.length ≤ 40 := by omega
  have h6L : ∀ x ∈ L, In64p x := fun x hx => h6 x (by rw [← hL] at hx; exact List.mem_of_mem_take hx)
  have hslL : Sl w A (ints .i64 L) := by
    have := hsl.take 40
    rw [← hL]
    simpa [ints, List.map_take] using this
  have HSH := Lib.hid (short34 z0 z1 z2 z3 z4 z5 z6 z7 z8 z9 z10 z11 z12 A nums.length cap (w.alloc (.cells #[.int .i64 z0, .int .i64 z1, .int .i64 z2, .int .i64 z3, .int .i64 z4, .int .i64 z5, .int .i64 z6, .int .i64 z7, .int .i64 z8, .int .i64 z9, .int .i64 z10, .int .i64 z11, .int .i64 z12, .slice A nums.length cap] 26)) hnc hcm (fun h => by
    obtain ⟨b, o, e, _⟩ := hsl.int (j := 0) (by omega)
    rw [e]; exact fun h => by cases h))
  rw [hmin] at HSH
  have hCB0 : CB (w.alloc (.cells #[.int .i64 z0, .int .i64 z1, .int .i64 z2, .int .i64 z3, .int .i64 z4, .int .i64 z5, .int .i64 z6, .int .i64 z7, .int .i64 z8, .int .i64 z9, .int .i64 z10, .int .i64 z11, .int .i64 z12, .slice A nums.length cap] 26)) w.heap.size [z0, z1, z2, z3, z4, z5, z6, z7, z8, z9, z10, z11, z12] (.slice A nums.length cap) := ⟨heap_alloc_new w _, rfl⟩
  have hB0 : Below w.heap.size w (w.alloc (.cells #[.int .i64 z0, .int .i64 z1, .int .i64 z2, .int .i64 z3, .int .i64 z4, .int .i64 z5, .int .i64 z6, .int .i64 z7, .int .i64 z8, .int .i64 z9, .int .i64 z10, .int .i64 z11, .int .i64 z12, .slice A nums.length cap] 26)) := since_alloc (Below.refl _ w) _
  obtain ⟨b, hb⟩ : ∃ b, w.heap.size = b := ⟨_, rfl⟩
  have HSN : Hid (∀ V, Below b w V → Sl V A (ints .i64 L)) := Lib.hid fun V hV => hslL.below (by rw [hb]; exact hV)
  have HEV : Hid (∀ V, Below b w V → EvB V.heap.size V) := Lib.hid fun V hV => by
    have hs := hV.size
    rw [← hb] at hV
    exact (hE.on hV).up hs
  obtain ⟨W1, hW1⟩ : ∃ W1, w.alloc (.cells #[.int .i64 z0, .int .i64 z1, .int .i64 z2, .int .i64 z3, .int .i64 z4, .int .i64 z5, .int .i64 z6, .int .i64 z7, .int .i64 z8, .int .i64 z9, .int .i64 z10, .int .i64 z11, .int .i64 z12, .slice A nums.length cap] 26) = W1 := ⟨_, rfl⟩
  rw [hW1] at hCB0 hB0 HSH
  rw [hb] at hCB0 hB0 ⊢
  have HBW := Lib.hid hb
  have HW1 := Lib.hid hW1
  have HCB0 := Lib.hid hCB0
  have HB0 := Lib.hid hB0
  -- the line of the command
  obtain ⟨OK, hOK⟩ : ∃ OK, okZ [z0, z1, z2, z3, z4, z5, z6, z7, z8, z9, z10, z11, z12] L.length = OK := ⟨_, rfl⟩
  have HLW : Hid (∀ V, Below b w V → Calls Tryz.prog 8 #[.agg #[.int .i64 z0, .int .i64 z1, .int .i64 z2, .int .i64 z3, .int .i64 z4, .int .i64 z5, .int .i64 z6, .int .i64 z7, .int .i64 z8, .int .i64 z9, .int .i64 z10, .int .i64 z11, .int .i64 z12, .slice A L.length cap]] V fun e w' => e = .returned (.tuple #[.string (S8 (lnB OK [z0, z1, z2, z3, z4, z5, z6, z7, z8, z9, z10, z11, z12] L)), .int .i64 (prE OK)]) ∧ Below V.heap.size V w') := Lib.hid fun V hV => by
    have h := wlineE z0 z1 z2 z3 z4 z5 z6 z7 z8 z9 z10 z11 z12 A cap L V (by omega) h6z h6L (HSN.out V hV) (HEV.out V hV)
    rw [hOK, line_one] at h
    exact h
  have HLR : Hid (∀ V, Below b w V → Calls Tryz.prog 9 #[.agg #[.int .i64 z0, .int .i64 z1, .int .i64 z2, .int .i64 z3, .int .i64 z4, .int .i64 z5, .int .i64 z6, .int .i64 z7, .int .i64 z8, .int .i64 z9, .int .i64 z10, .int .i64 z11, .int .i64 z12, .slice A L.length cap]] V fun e w' => e = .returned (.tuple #[.string (S8 (lnB OK [z0, z1, z2, z3, z4, z5, z6, z7, z8, z9, z10, z11, z12] L)), .int .i64 (prE OK)]) ∧ Below V.heap.size V w') := Lib.hid fun V hV => by
    have h := rlineE z0 z1 z2 z3 z4 z5 z6 z7 z8 z9 z10 z11 z12 A cap L V (by omega) h6z h6L (HSN.out V hV)
    unfold lineA at h
    rw [hOK, line_one] at h
    exact h
  have hln : (lnB OK [z0, z1, z2, z3, z4, z5, z6, z7, z8, z9, z10, z11, z12] L).length ≤ 900 := by
    unfold lnB
    split
    · rename_i h
      rw [h] at hOK
      have h32 : L.length ≤ 32 := by
        simp only [okZ, Bool.and_eq_true, decide_eq_true_eq] at hOK
        exact hOK.1.1.1.2.2.2.2
      exact line_len900 h6z h6L h32
    · simp
  have HPB : Hid (OK = true → okP (lnB OK [z0, z1, z2, z3, z4, z5, z6, z7, z8, z9, z10, z11, z12] L) = true ∧ (parseZ (lnB OK [z0, z1, z2, z3, z4, z5, z6, z7, z8, z9, z10, z11, z12] L)).z = [z0, z1, z2, z3, z4, z5, z6, z7, z8, z9, z10, z11, z12] ∧ (parseZ (lnB OK [z0, z1, z2, z3, z4, z5, z6, z7, z8, z9, z10, z11, z12] L)).nums = L) := Lib.hid fun h => by
    subst h
    exact parse_line rfl h6z h6L hOK
  obtain ⟨LN, hLN⟩ : ∃ LN, lnB OK [z0, z1, z2, z3, z4, z5, z6, z7, z8, z9, z10, z11, z12] L = LN := ⟨_, rfl⟩
  rw [hLN] at HLW HLR hln HPB
  -- the command of the line
  have hzl := prZ_len (okP t) (parseZ_in t).2.2
  have hnl := prN_len t
  have HPW : Hid (∀ V, Below b w V → Calls Tryz.prog 10 #[.string (S8 t)] V fun e w' => (∃ A c, e = .returned (.tuple #[.agg (cbox (prZ (okP t) (parseZ t).z) (.slice A (prN (okP t) (parseZ t).nums).length c)), .int .i64 (prE (okP t))]) ∧ Sl w' A (ints .i64 (prN (okP t) (parseZ t).nums))) ∧ Below V.heap.size V w') := Lib.hid fun V hV =>
    (rparseP t V (by omega) (HEV.out V hV)).mono fun e w' h => ⟨pres_one h.1, h.2⟩
  have HPR : Hid (∀ V, Calls Tryz.prog 11 #[.string (S8 t)] V fun e w' => (∃ A c, e = .returned (.tuple #[.agg (cbox (prZ (okP t) (parseZ t).z) (.slice A (prN (okP t) (parseZ t).nums).length c)), .int .i64 (prE (okP t))]) ∧ Sl w' A (ints .i64 (prN (okP t) (parseZ t).nums))) ∧ Below V.heap.size V w') := Lib.hid fun V =>
    (rparse40 t V (by omega)).mono fun e w' h => ⟨pres_one h.1, h.2⟩
  obtain ⟨ZZ, hZZ⟩ : ∃ ZZ, prZ (okP t) (parseZ t).z = ZZ := ⟨_, rfl⟩
  obtain ⟨NN, hNN⟩ : ∃ NN, prN (okP t) (parseZ t).nums = NN := ⟨_, rfl⟩
  obtain ⟨pe, hpe⟩ : ∃ pe, prE (okP t) = pe := ⟨_, rfl⟩
  rw [hZZ, hNN, hpe] at HPW HPR
  rw [hZZ] at hzl
  rw [hNN] at hnl
  obtain ⟨y0, y1, y2, y3, y4, y5, y6, y7, y8, y9, y10, y11, y12, hYS⟩ : ∃ y0 y1 y2 y3 y4 y5 y6 y7 y8 y9 y10 y11 y12, ZZ = [y0, y1, y2, y3, y4, y5, y6, y7, y8, y9, y10, y11, y12] := by
    match ZZ, hzl with
    | [y0, y1, y2, y3, y4, y5, y6, y7, y8, y9, y10, y11, y12], _ => exact ⟨_, _, _, _, _, _, _, _, _, _, _, _, _, rfl⟩
  subst hYS
  have HNL := Lib.hid hnl
  have HPL : Hid (∀ V, Below b w V → Calls Tryz.prog 10 #[.string (S8 LN)] V fun e w' => PRes w' e (okP LN) (parseZ LN).z (parseZ LN).nums ∧ Below V.heap.size V w') := Lib.hid fun V hV => rparseP LN V hln (HEV.out V hV)
  have HWW := Lib.hid (fun V (hV : Below b w V) => wword a2 hop64 V (HEV.out V hV).here)
  have HOP := Lib.hid (fun l V (hV : Below b w V) => wop l V (HEV.out V hV).here)
  have HLV := Lib.hid (fun V (hV : Below b w V) => lives40_any V (HEV.out V hV))
  have HSA := Lib.hid (fun A B ca cb V (ha : Sl V A (ints .i64 NN)) (hb : Sl V B (ints .i64 NN)) => rsame34 y0 y1 y2 y3 y4 y5 y6 y7 y8 y9 y10 y11 y12 A B ca cb NN V HNL.out ha hb)
  have HSC := Lib.hid (fun B cb V (ha : Sl V A (ints .i64 L)) (hb : Sl V B (ints .i64 L)) => rsame34 z0 z1 z2 z3 z4 z5 z6 z7 z8 z9 z10 z11 z12 B A cb cap L V (by omega) hb ha)
  have HNM := Lib.hid (fun V => rnames40 V)
  have HO0 : Hid (∀ V, Below b w V → Calls Tryz.prog 15 #[.string ⟨#[]⟩] V fun e w' => e = .returned (.int .i64 0) ∧ Below V.heap.size V w') := Lib.hid fun V hV => by
    have h := wop [] V (HEV.out V hV).here
    have e0 : opB [] = 0 := by decide +kernel
    rw [e0] at h
    exact h
  have hcb0 : ∀ i, i < 13 → True := fun _ _ => trivial
  obtain ⟨k0, k1, k2, k3, k4, k5, k6, k7, k8, k9, k10, k11, k12, k13, kl⟩ : W1.cell? ⟨b, 0, none⟩ = some (.int .i64 z0) ∧ W1.cell? ⟨b, 1, none⟩ = some (.int .i64 z1) ∧ W1.cell? ⟨b, 2, none⟩ = some (.int .i64 z2) ∧ W1.cell? ⟨b, 3, none⟩ = some (.int .i64 z3) ∧ W1.cell? ⟨b, 4, none⟩ = some (.int .i64 z4) ∧ W1.cell? ⟨b, 5, none⟩ = some (.int .i64 z5) ∧ W1.cell? ⟨b, 6, none⟩ = some (.int .i64 z6) ∧ W1.cell? ⟨b, 7, none⟩ = some (.int .i64 z7) ∧ W1.cell? ⟨b, 8, none⟩ = some (.int .i64 z8) ∧ W1.cell? ⟨b, 9, none⟩ = some (.int .i64 z9) ∧ W1.cell? ⟨b, 10, none⟩ = some (.int .i64 z10) ∧ W1.cell? ⟨b, 11, none⟩ = some (.int .i64 z11) ∧ W1.cell? ⟨b, 12, none⟩ = some (.int .i64 z12) ∧ W1.cell? ⟨b, 13, none⟩ = some (.slice A nums.length cap) ∧ b < W1.heap.size := ⟨(hCB0.got (o := 0) (by decide)).1, (hCB0.got (o := 1) (by decide)).1, (hCB0.got (o := 2) (by decide)).1, (hCB0.got (o := 3) (by decide)).1, (hCB0.got (o := 4) (by decide)).1, (hCB0.got (o := 5) (by decide)).1, (hCB0.got (o := 6) (by decide)).1, (hCB0.got (o := 7) (by decide)).1, (hCB0.got (o := 8) (by decide)).1, (hCB0.got (o := 9) (by decide)).1, (hCB0.got (o := 10) (by decide)).1, (hCB0.got (o := 11) (by decide)).1, (hCB0.got (o := 12) (by decide)).1, hCB0.gotV.1, hCB0.lt⟩
  clear w0 w1 w2 h6z hnc hcm hsl h6 hmin hL h6L hslL hb hW1 hCB0 hB0 ht htl hLN hln hZZ hNN hpe hnl hcb0 hE hop64 hzl hOK
  go_enter Tryz.func3, Tryz.ntmps3
  go_upto_region 1 with fail
  rw [HW1.out, HBW.out]
  go_wp2_with fail
  refine HSH.out.mono ?_
  rintro e v1 ⟨rfl, hb1⟩
  have hcb1 := HCB0.out.below hb1
  have hB1 : Below b w v1 := HB0.out.trans (hb1.mono (Nat.le_of_lt HCB0.out.lt))
  clear k0 k1 k2 k3 k4 k5 k6 k7 k8 k9 k10 k11 k12 k13 kl hb1
  obtain ⟨k0, fk0⟩ := hcb1.got (o := 0) (by decide)
  obtain ⟨k1, fk1⟩ := hcb1.got (o := 1) (by decide)
  obtain ⟨k2, fk2⟩ := hcb1.got (o := 2) (by decide)
  obtain ⟨k3, fk3⟩ := hcb1.got (o := 3) (by decide)
  obtain ⟨k4, fk4⟩ := hcb1.got (o := 4) (by decide)
  obtain ⟨k5, fk5⟩ := hcb1.got (o := 5) (by decide)
  obtain ⟨k6, fk6⟩ := hcb1.got (o := 6) (by decide)
  obtain ⟨k7, fk7⟩ := hcb1.got (o := 7) (by decide)
  obtain ⟨k8, fk8⟩ := hcb1.got (o := 8) (by decide)
  obtain ⟨k9, fk9⟩ := hcb1.got (o := 9) (by decide)
  obtain ⟨k10, fk10⟩ := hcb1.got (o := 10) (by decide)
  obtain ⟨k11, fk11⟩ := hcb1.got (o := 11) (by decide)
  obtain ⟨k12, fk12⟩ := hcb1.got (o := 12) (by decide)
  obtain ⟨k13, fk13⟩ := hcb1.gotV
  have kl := hcb1.lt
  simp only [List.getD_cons_zero, List.getD_cons_succ] at k0 k1 k2 k3 k4 k5 k6 k7 k8 k9 k10 k11 k12
  have hcb2 : CB ((((((((((((((v1.setCell ⟨b, 0, none⟩ (.int .i64 z0)).setCell ⟨b, 1, none⟩ (.int .i64 z1)).setCell ⟨b, 2, none⟩ (.int .i64 z2)).setCell ⟨b, 3, none⟩ (.int .i64 z3)).setCell ⟨b, 4, none⟩ (.int .i64 z4)).setCell ⟨b, 5, none⟩ (.int .i64 z5)).setCell ⟨b, 6, none⟩ (.int .i64 z6)).setCell ⟨b, 7, none⟩ (.int .i64 z7)).setCell ⟨b, 8, none⟩ (.int .i64 z8)).setCell ⟨b, 9, none⟩ (.int .i64 z9)).setCell ⟨b, 10, none⟩ (.int .i64 z10)).setCell ⟨b, 11, none⟩ (.int .i64 z11)).setCell ⟨b, 12, none⟩ (.int .i64 z12)).setCell ⟨b, 13, none⟩ (.slice A L.length cap)) b [z0, z1, z2, z3, z4, z5, z6, z7, z8, z9, z10, z11, z12] (.slice A L.length cap) := ((((((((((((((hcb1.put (o := 0) (by decide) z0).put (o := 1) (by decide) z1).put (o := 2) (by decide) z2).put (o := 3) (by decide) z3).put (o := 4) (by decide) z4).put (o := 5) (by decide) z5).put (o := 6) (by decide) z6).put (o := 7) (by decide) z7).put (o := 8) (by decide) z8).put (o := 9) (by decide) z9).put (o := 10) (by decide) z10).put (o := 11) (by decide) z11).put (o := 12) (by decide) z12).putV (.slice A L.length cap))
  have hB2 : Below b w ((((((((((((((v1.setCell ⟨b, 0, none⟩ (.int .i64 z0)).setCell ⟨b, 1, none⟩ (.int .i64 z1)).setCell ⟨b, 2, none⟩ (.int .i64 z2)).setCell ⟨b, 3, none⟩ (.int .i64 z3)).setCell ⟨b, 4, none⟩ (.int .i64 z4)).setCell ⟨b, 5, none⟩ (.int .i64 z5)).setCell ⟨b, 6, none⟩ (.int .i64 z6)).setCell ⟨b, 7, none⟩ (.int .i64 z7)).setCell ⟨b, 8, none⟩ (.int .i64 z8)).setCell ⟨b, 9, none⟩ (.int .i64 z9)).setCell ⟨b, 10, none⟩ (.int .i64 z10)).setCell ⟨b, 11, none⟩ (.int .i64 z11)).setCell ⟨b, 12, none⟩ (.int .i64 z12)).setCell ⟨b, 13, none⟩ (.slice A L.length cap)) := ((((((((((((((hB1.setCell (Nat.le_refl _) (.int .i64 z0)).setCell (Nat.le_refl _) (.int .i64 z1)).setCell (Nat.le_refl _) (.int .i64 z2)).setCell (Nat.le_refl _) (.int .i64 z3)).setCell (Nat.le_refl _) (.int .i64 z4)).setCell (Nat.le_refl _) (.int .i64 z5)).setCell (Nat.le_refl _) (.int .i64 z6)).setCell (Nat.le_refl _) (.int .i64 z7)).setCell (Nat.le_refl _) (.int .i64 z8)).setCell (Nat.le_refl _) (.int .i64 z9)).setCell (Nat.le_refl _) (.int .i64 z10)).setCell (Nat.le_refl _) (.int .i64 z11)).setCell (Nat.le_refl _) (.int .i64 z12)).setCell (Nat.le_refl _) (.slice A L.length cap))
  obtain ⟨V2, hV2⟩ : ∃ V2, ((((((((((((((v1.setCell ⟨b, 0, none⟩ (.int .i64 z0)).setCell ⟨b, 1, none⟩ (.int .i64 z1)).setCell ⟨b, 2, none⟩ (.int .i64 z2)).setCell ⟨b, 3, none⟩ (.int .i64 z3)).setCell ⟨b, 4, none⟩ (.int .i64 z4)).setCell ⟨b, 5, none⟩ (.int .i64 z5)).setCell ⟨b, 6, none⟩ (.int .i64 z6)).setCell ⟨b, 7, none⟩ (.int .i64 z7)).setCell ⟨b, 8, none⟩ (.int .i64 z8)).setCell ⟨b, 9, none⟩ (.int .i64 z9)).setCell ⟨b, 10, none⟩ (.int .i64 z10)).setCell ⟨b, 11, none⟩ (.int .i64 z11)).setCell ⟨b, 12, none⟩ (.int .i64 z12)).setCell ⟨b, 13, none⟩ (.slice A L.length cap)) = V2 := ⟨_, rfl⟩
  rw [hV2] at hcb2 hB2
  have HV2 := Lib.hid hV2
  have HC2 : Hid (∀ V, Below V2.heap.size V2 V → CB V b [z0, z1, z2, z3, z4, z5, z6, z7, z8, z9, z10, z11, z12] (.slice A L.length cap) ∧ Below b w V) := Lib.hid fun V hV => ⟨hcb2.below hV, hB2.trans (hV.mono (Nat.le_of_lt hcb2.lt))⟩
  have hcs := @cell_set
  clear hcb2 hB2 hV2 hcb1 hB1
  go_wp2_with (first | (refine (HT.out _).mono ?_; rintro e v9 ⟨rfl, rfl⟩) | fail)
  go_upto_region 2 with fail
  rw [HV2.out]
  clear fk0 fk1 fk2 fk3 fk4 fk5 fk6 fk7 fk8 fk9 fk10 fk11 fk12 fk13 k0 k1 k2 k3 k4 k5 k6 k7 k8 k9 k10 k11 k12 k13 kl
  obtain ⟨hcb, hB⟩ := HC2.out V2 (Below.refl _ _)
  obtain ⟨k0, fk0⟩ := hcb.got (o := 0) (by decide)
  obtain ⟨k1, fk1⟩ := hcb.got (o := 1) (by decide)
  obtain ⟨k2, fk2⟩ := hcb.got (o := 2) (by decide)
  obtain ⟨k3, fk3⟩ := hcb.got (o := 3) (by decide)
  obtain ⟨k4, fk4⟩ := hcb.got (o := 4) (by decide)
  obtain ⟨k5, fk5⟩ := hcb.got (o := 5) (by decide)
  obtain ⟨k6, fk6⟩ := hcb.got (o := 6) (by decide)
  obtain ⟨k7, fk7⟩ := hcb.got (o := 7) (by decide)
  obtain ⟨k8, fk8⟩ := hcb.got (o := 8) (by decide)
  obtain ⟨k9, fk9⟩ := hcb.got (o := 9) (by decide)
  obtain ⟨k10, fk10⟩ := hcb.got (o := 10) (by decide)
  obtain ⟨k11, fk11⟩ := hcb.got (o := 11) (by decide)
  obtain ⟨k12, fk12⟩ := hcb.got (o := 12) (by decide)
  obtain ⟨k13, fk13⟩ := hcb.gotV
  have kl := hcb.lt
  simp only [List.getD_cons_zero, List.getD_cons_succ] at k0 k1 k2 k3 k4 k5 k6 k7 k8 k9 k10 k11 k12
  clear fk0 fk1 fk2 fk3 fk4 fk5 fk6 fk7 fk8 fk9 fk10 fk11 fk12 fk13
  have HA := Lib.hid (HLW.out V2 hB)
  clear hcb hB
  go_wp2_with fail
  refine HA.out.mono ?_
  rintro e v3 ⟨rfl, hb3⟩
  have HB3 := Lib.hid hb3
  clear k0 k1 k2 k3 k4 k5 k6 k7 k8 k9 k10 k11 k12 k13 kl
  clear hb3 HA
  obtain ⟨hcb, hB⟩ := HC2.out v3 (HB3.out)
  obtain ⟨k0, fk0⟩ := hcb.got (o := 0) (by decide)
  obtain ⟨k1, fk1⟩ := hcb.got (o := 1) (by decide)
  obtain ⟨k2, fk2⟩ := hcb.got (o := 2) (by decide)
  obtain ⟨k3, fk3⟩ := hcb.got (o := 3) (by decide)
  obtain ⟨k4, fk4⟩ := hcb.got (o := 4) (by decide)
  obtain ⟨k5, fk5⟩ := hcb.got (o := 5) (by decide)
  obtain ⟨k6, fk6⟩ := hcb.got (o := 6) (by decide)
  obtain ⟨k7, fk7⟩ := hcb.got (o := 7) (by decide)
  obtain ⟨k8, fk8⟩ := hcb.got (o := 8) (by decide)
  obtain ⟨k9, fk9⟩ := hcb.got (o := 9) (by decide)
  obtain ⟨k10, fk10⟩ := hcb.got (o := 10) (by decide)
  obtain ⟨k11, fk11⟩ := hcb.got (o := 11) (by decide)
  obtain ⟨k12, fk12⟩ := hcb.got (o := 12) (by decide)
  obtain ⟨k13, fk13⟩ := hcb.gotV
  have kl := hcb.lt
  simp only [List.getD_cons_zero, List.getD_cons_succ] at k0 k1 k2 k3 k4 k5 k6 k7 k8 k9 k10 k11 k12
  clear fk0 fk1 fk2 fk3 fk4 fk5 fk6 fk7 fk8 fk9 fk10 fk11 fk12 fk13
  have HA := Lib.hid (HLR.out v3 hB)
  clear hcb hB
  go_wp2_with fail
  refine HA.out.mono ?_
  rintro e v4 ⟨rfl, hb4⟩
  have hb4 := since_step HB3.out hb4
  have HB4 := Lib.hid hb4
  have HA := Lib.hid (HPW.out v4 (HC2.out v4 hb4).2)
  clear k0 k1 k2 k3 k4 k5 k6 k7 k8 k9 k10 k11 k12 k13 kl
  clear hb4 HB3
  go_wp2_with fail
  refine HA.out.mono ?_
  rintro e v5 ⟨⟨A5, c5, rfl, hs5⟩, hb5⟩
  have hb5 := since_step HB4.out hb5
  have e5 : Value.agg (cbox [y0, y1, y2, y3, y4, y5, y6, y7, y8, y9, y10, y11, y12] (.slice A5 NN.length c5)) = .agg #[.int .i64 y0, .int .i64 y1, .int .i64 y2, .int .i64 y3, .int .i64 y4, .int .i64 y5, .int .i64 y6, .int .i64 y7, .int .i64 y8, .int .i64 y9, .int .i64 y10, .int .i64 y11, .int .i64 y12, .slice A5 NN.length c5] := rfl
  rw [e5]
  have hal := since_alloc (Below.refl _ v5) (.cells #[.int .i64 y0, .int .i64 y1, .int .i64 y2, .int .i64 y3, .int .i64 y4, .int .i64 y5, .int .i64 y6, .int .i64 y7, .int .i64 y8, .int .i64 y9, .int .i64 y10, .int .i64 y11, .int .i64 y12, .slice A5 NN.length c5] 26)
  have hxx := heap_alloc_new v5 (.cells #[.int .i64 y0, .int .i64 y1, .int .i64 y2, .int .i64 y3, .int .i64 y4, .int .i64 y5, .int .i64 y6, .int .i64 y7, .int .i64 y8, .int .i64 y9, .int .i64 y10, .int .i64 y11, .int .i64 y12, .slice A5 NN.length c5] 26)
  obtain ⟨xb, hxb⟩ : ∃ xb, v5.heap.size = xb := ⟨_, rfl⟩
  obtain ⟨X5, hX5⟩ : ∃ X5, v5.alloc (.cells #[.int .i64 y0, .int .i64 y1, .int .i64 y2, .int .i64 y3, .int .i64 y4, .int .i64 y5, .int .i64 y6, .int .i64 y7, .int .i64 y8, .int .i64 y9, .int .i64 y10, .int .i64 y11, .int .i64 y12, .slice A5 NN.length c5] 26) = X5 := ⟨_, rfl⟩
  rw [hxb] at hxx
  rw [hX5] at hal hxx
  have hb5 := since_step hb5 hal
  have hs5 := hs5.below hal
  have hxlt := (Array.getElem?_eq_some_iff.1 hxx).1
  have HX5 := Lib.hid hX5
  have HXB := Lib.hid hxb
  have HBX : Hid (∀ V, Below X5.heap.size X5 V → V.heap[xb]? = some (.cells #[.int .i64 y0, .int .i64 y1, .int .i64 y2, .int .i64 y3, .int .i64 y4, .int .i64 y5, .int .i64 y6, .int .i64 y7, .int .i64 y8, .int .i64 y9, .int .i64 y10, .int .i64 y11, .int .i64 y12, .slice A5 NN.length c5] 26 (0, 0)) ∧ Sl V A5 (ints .i64 NN) ∧ Below V2.heap.size V2 V) := Lib.hid fun V hV => ⟨(hV.block _ hxlt).trans hxx, hs5.below hV, since_step hb5 hV⟩
  have HB5 := Lib.hid hb5
  have HA := Lib.hid (HPR.out X5)
  clear hal hxx hxb hX5 hb5 hs5 hxlt e5 HB4
  go_upto_region 5 with fail
  rw [HX5.out, HXB.out]
  go_wp2_with fail
  refine HA.out.mono ?_
  rintro e v6 ⟨⟨A6, c6, rfl, hs6⟩, hb6⟩
  have e6 : Value.agg (cbox [y0, y1, y2, y3, y4, y5, y6, y7, y8, y9, y10, y11, y12] (.slice A6 NN.length c6)) = .agg #[.int .i64 y0, .int .i64 y1, .int .i64 y2, .int .i64 y3, .int .i64 y4, .int .i64 y5, .int .i64 y6, .int .i64 y7, .int .i64 y8, .int .i64 y9, .int .i64 y10, .int .i64 y11, .int .i64 y12, .slice A6 NN.length c6] := rfl
  rw [e6]
  have hal := since_alloc (Below.refl _ v6) (.cells #[.int .i64 y0, .int .i64 y1, .int .i64 y2, .int .i64 y3, .int .i64 y4, .int .i64 y5, .int .i64 y6, .int .i64 y7, .int .i64 y8, .int .i64 y9, .int .i64 y10, .int .i64 y11, .int .i64 y12, .slice A6 NN.length c6] 26)
  have hyy := heap_alloc_new v6 (.cells #[.int .i64 y0, .int .i64 y1, .int .i64 y2, .int .i64 y3, .int .i64 y4, .int .i64 y5, .int .i64 y6, .int .i64 y7, .int .i64 y8, .int .i64 y9, .int .i64 y10, .int .i64 y11, .int .i64 y12, .slice A6 NN.length c6] 26)
  obtain ⟨yb, hyb⟩ : ∃ yb, v6.heap.size = yb := ⟨_, rfl⟩
  obtain ⟨Y6, hY6⟩ : ∃ Y6, v6.alloc (.cells #[.int .i64 y0, .int .i64 y1, .int .i64 y2, .int .i64 y3, .int .i64 y4, .int .i64 y5, .int .i64 y6, .int .i64 y7, .int .i64 y8, .int .i64 y9, .int .i64 y10, .int .i64 y11, .int .i64 y12, .slice A6 NN.length c6] 26) = Y6 := ⟨_, rfl⟩
  rw [hyb] at hyy
  rw [hY6] at hal hyy
  have hb6 := since_step hb6 hal
  have hs6 := hs6.below hal
  have HY6 := Lib.hid hY6
  have HYB := Lib.hid hyb
  obtain ⟨hxx, hs5, hb7⟩ := HBX.out Y6 hb6
  have HA := Lib.hid (HSA.out A5 A6 c5 c6 Y6 hs5 hs6)
  have HB7 := Lib.hid hb7
  have x0 : Y6.cell? ⟨xb, 0, none⟩ = some (.int .i64 y0) := (cell_of_row Y6 xb 0 _ _ (0, 0) hxx).trans rfl
  have w0 : Y6.cell? ⟨yb, 0, none⟩ = some (.int .i64 y0) := (cell_of_row Y6 yb 0 _ _ (0, 0) hyy).trans rfl
  have x1 : Y6.cell? ⟨xb, 1, none⟩ = some (.int .i64 y1) := (cell_of_row Y6 xb 1 _ _ (0, 0) hxx).trans rfl
  have w1 : Y6.cell? ⟨yb, 1, none⟩ = some (.int .i64 y1) := (cell_of_row Y6 yb 1 _ _ (0, 0) hyy).trans rfl
  have x2 : Y6.cell? ⟨xb, 2, none⟩ = some (.int .i64 y2) := (cell_of_row Y6 xb 2 _ _ (0, 0) hxx).trans rfl
  have w2 : Y6.cell? ⟨yb, 2, none⟩ = some (.int .i64 y2) := (cell_of_row Y6 yb 2 _ _ (0, 0) hyy).trans rfl
  have x3 : Y6.cell? ⟨xb, 3, none⟩ = some (.int .i64 y3) := (cell_of_row Y6 xb 3 _ _ (0, 0) hxx).trans rfl
  have w3 : Y6.cell? ⟨yb, 3, none⟩ = some (.int .i64 y3) := (cell_of_row Y6 yb 3 _ _ (0, 0) hyy).trans rfl
  have x4 : Y6.cell? ⟨xb, 4, none⟩ = some (.int .i64 y4) := (cell_of_row Y6 xb 4 _ _ (0, 0) hxx).trans rfl
  have w4 : Y6.cell? ⟨yb, 4, none⟩ = some (.int .i64 y4) := (cell_of_row Y6 yb 4 _ _ (0, 0) hyy).trans rfl
  have x5 : Y6.cell? ⟨xb, 5, none⟩ = some (.int .i64 y5) := (cell_of_row Y6 xb 5 _ _ (0, 0) hxx).trans rfl
  have w5 : Y6.cell? ⟨yb, 5, none⟩ = some (.int .i64 y5) := (cell_of_row Y6 yb 5 _ _ (0, 0) hyy).trans rfl
  have x6 : Y6.cell? ⟨xb, 6, none⟩ = some (.int .i64 y6) := (cell_of_row Y6 xb 6 _ _ (0, 0) hxx).trans rfl
  have w6 : Y6.cell? ⟨yb, 6, none⟩ = some (.int .i64 y6) := (cell_of_row Y6 yb 6 _ _ (0, 0) hyy).trans rfl
  have x7 : Y6.cell? ⟨xb, 7, none⟩ = some (.int .i64 y7) := (cell_of_row Y6 xb 7 _ _ (0, 0) hxx).trans rfl
  have w7 : Y6.cell? ⟨yb, 7, none⟩ = some (.int .i64 y7) := (cell_of_row Y6 yb 7 _ _ (0, 0) hyy).trans rfl
  have x8 : Y6.cell? ⟨xb, 8, none⟩ = some (.int .i64 y8) := (cell_of_row Y6 xb 8 _ _ (0, 0) hxx).trans rfl
  have w8 : Y6.cell? ⟨yb, 8, none⟩ = some (.int .i64 y8) := (cell_of_row Y6 yb 8 _ _ (0, 0) hyy).trans rfl
  have x9 : Y6.cell? ⟨xb, 9, none⟩ = some (.int .i64 y9) := (cell_of_row Y6 xb 9 _ _ (0, 0) hxx).trans rfl
  have w9 : Y6.cell? ⟨yb, 9, none⟩ = some (.int .i64 y9) := (cell_of_row Y6 yb 9 _ _ (0, 0) hyy).trans rfl
  have x10 : Y6.cell? ⟨xb, 10, none⟩ = some (.int .i64 y10) := (cell_of_row Y6 xb 10 _ _ (0, 0) hxx).trans rfl
  have w10 : Y6.cell? ⟨yb, 10, none⟩ = some (.int .i64 y10) := (cell_of_row Y6 yb 10 _ _ (0, 0) hyy).trans rfl
  have x11 : Y6.cell? ⟨xb, 11, none⟩ = some (.int .i64 y11) := (cell_of_row Y6 xb 11 _ _ (0, 0) hxx).trans rfl
  have w11 : Y6.cell? ⟨yb, 11, none⟩ = some (.int .i64 y11) := (cell_of_row Y6 yb 11 _ _ (0, 0) hyy).trans rfl
  have x12 : Y6.cell? ⟨xb, 12, none⟩ = some (.int .i64 y12) := (cell_of_row Y6 xb 12 _ _ (0, 0) hxx).trans rfl
  have w12 : Y6.cell? ⟨yb, 12, none⟩ = some (.int .i64 y12) := (cell_of_row Y6 yb 12 _ _ (0, 0) hyy).trans rfl
  have x13 : Y6.cell? ⟨xb, 13, none⟩ = some (.slice A5 NN.length c5) := (cell_of_row Y6 xb 13 _ _ (0, 0) hxx).trans rfl
  have w13 : Y6.cell? ⟨yb, 13, none⟩ = some (.slice A6 NN.length c6) := (cell_of_row Y6 yb 13 _ _ (0, 0) hyy).trans rfl
  have xl := (Array.getElem?_eq_some_iff.1 hxx).1
  have wl := (Array.getElem?_eq_some_iff.1 hyy).1
  have hse : ((S8 LN).toList == (S8 LN).toList) = true := (Lib.bytes_beq_iff _ _).mpr rfl
  clear hal hyy hyb hY6 hb6 hs6 hxx hs5 hb7 e6 HB5
  go_upto_region 6 with fail
  rw [HY6.out, HYB.out]
  go_upto_region 8 with (first | (go_at_call 12; refine HA.out.mono ?_; rintro e v8 ⟨rfl, hb8⟩; have HB8 := Lib.hid (since_step HB7.out hb8); clear hb8 x0 w0 x1 w1 x2 w2 x3 w3 x4 w4 x5 w5 x6 w6 x7 w7 x8 w8 x9 w9 x10 w10 x11 w11 x12 w12 x13 w13 xl wl) | fail)
  go_upto_region 9 with fail
  go_cut [66] (fun c wx => c = .bool (decide (1 ≤ a2 ∧ a2 ≤ 31)) ∧ v8 = wx)
  case first =>
    by_cases h1 : 1 ≤ a2
    · by_cases h2 : a2 ≤ 31
      · have HD := Lib.hid (decide_eq_true (p := 1 ≤ a2 ∧ a2 ≤ 31) ⟨h1, h2⟩)
        go_wp2_with fail
        go_meet
        case rel => exact ⟨congrArg Value.bool HD.out.symm, rfl⟩
      · have HD := Lib.hid (decide_eq_false (p := 1 ≤ a2 ∧ a2 ≤ 31) (fun h => h2 h.2))
        go_wp2_with fail
        go_meet
        case rel => exact ⟨congrArg Value.bool HD.out.symm, rfl⟩
    · have HD := Lib.hid (decide_eq_false (p := 1 ≤ a2 ∧ a2 ≤ 31) (fun h => h1 h.1))
      go_wp2_with fail
      go_meet
      case rel => exact ⟨congrArg Value.bool HD.out.symm, rfl⟩
  case rest =>
  obtain ⟨rfl, rfl⟩ := hcut
  obtain ⟨iB, hiB⟩ : ∃ iB, decide (1 ≤ a2 ∧ a2 ≤ 31) = iB := ⟨_, rfl⟩
  rw [hiB]
  have HIB := Lib.hid hiB
  clear hiB
  go_upto_if 66 with fail
  go_cut [15] (fun wv wx => wv = .string (S8 (wordB a2)) ∧ Below V2.heap.size V2 wx)
  case first =>
    cases iB with
    | true =>
      have hop : 1 ≤ a2 ∧ a2 ≤ 31 := of_decide_eq_true HIB.out
      have h1 := hop.1
      have h2 := hop.2
      obtain ⟨tn, htn⟩ : ∃ tn : Nat, tn = (a2 - 1).toNat := ⟨_, rfl⟩
      have htI : a2 - 1 = (tn : Int) := by omega
      have ht31 : tn < 31 := by omega
      have hw1 : IntKind.i64.wrap (a2 - 1) = (tn : Int) := by rw [IntWalk.i64_in _ (by omega), htI]
      have ht0 : (0 : Int) ≤ (tn : Int) := by omega
      have ht3 : (tn : Int) < 31 := by omega
      have HWB : Hid (opsW.getD tn [] = wordB a2) := Lib.hid (by unfold wordB; rw [if_pos hop, htn])
      have HTI := Lib.hid htI
      clear hop htn htI
      go_wp2_with (first | (go_at_call 13; refine (HNM.out _).mono ?_; rintro e v9 ⟨rfl, rfl⟩; have hal := since_alloc (Below.refl _ v8) (.cells (strs opsW).toArray 9); have hc5 : (v8.alloc (.cells (strs opsW).toArray 9)).cell? ⟨v8.heap.size, tn, none⟩ = some (.string (S8 (wordB a2))) := (by rw [← HWB.out]; exact ops_cell v8 ht31); have hl5 : v8.heap.size < (v8.alloc (.cells (strs opsW).toArray 9)).heap.size := (by rw [World.size_alloc]; exact Nat.lt_succ_self _); have HBN := Lib.hid (since_step HB8.out hal); generalize hgen : v8.alloc (.cells (strs opsW).toArray 9) = v9 at *; clear hgen hal) | fail)
      go_meet
      case rel => exact ⟨rfl, HBN.out⟩
    | false =>
      have hop : ¬ (1 ≤ a2 ∧ a2 ≤ 31) := of_decide_eq_false HIB.out
      have HWB : Hid (wordB a2 = []) := Lib.hid (by unfold wordB; rw [if_neg hop])
      clear hop
      go_wp2_with fail
      go_meet
      case rel => exact ⟨by rw [HWB.out]; rfl, HB8.out⟩
  case rest =>
    obtain ⟨rfl, hb9⟩ := hcut
    generalize wc = v9 at *
    have HB9 := Lib.hid hb9
    clear hb9 HB8 hse
    go_upto_region 11 with fail
    go_cut [89] (fun cv wx => cv = .bool false ∧ Below V2.heap.size V2 wx)
    case first =>
      by_cases hop : 1 ≤ a2 ∧ a2 ≤ 31
      · have hne := wordB_ne hop
        have hopw := op_word hop
        have hl0 : ((S8 (wordB a2)).toList == []) = false := by
          rw [ByteArray.toList_eq, S8_data, beq_eq_false_iff_ne]
          exact hne
        have hl1 : ¬ (S8 (wordB a2)).toList = [] := fun h => by rw [h] at hl0; cases hl0
        have hl2 : ((S8 (wordB a2)).toList == (S8 (wordB a2)).toList) = true := (Lib.bytes_beq_iff _ _).mpr rfl
        have HWO := Lib.hid (HOP.out (wordB a2))
        rw [hopw] at HWO
        clear hne hopw hop
        go_wp2_with fail
        refine (HWW.out _ (HC2.out _ HB9.out).2).mono ?_
        rintro e y1 ⟨rfl, hb1⟩
        have HB1 := Lib.hid (since_step HB9.out hb1)
        clear hb1
        go_wp2_with fail
        refine (HWO.out _ (HC2.out _ HB1.out).2).mono ?_
        rintro e y2 ⟨rfl, hb2⟩
        have HB2 := Lib.hid (since_step HB1.out hb2)
        clear hb2
        go_wp2_with fail
        refine (HO0.out _ (HC2.out _ HB2.out).2).mono ?_
        rintro e y3 ⟨rfl, hb3⟩
        have HB3 := Lib.hid (since_step HB2.out hb3)
        clear hb3
        go_wp2_with fail
        go_meet
        case rel => exact ⟨rfl, HB3.out⟩
      · have HWB : Hid (wordB a2 = []) := Lib.hid (by unfold wordB; rw [if_neg hop])
        have hl0 : (S8 (wordB a2)).toList = [] := by rw [ByteArray.toList_eq, S8_data, HWB.out]
        clear hop
        go_wp2_with fail
        refine (HWW.out _ (HC2.out _ HB9.out).2).mono ?_
        rintro e y1 ⟨rfl, hb1⟩
        have HB1 := Lib.hid (since_step HB9.out hb1)
        clear hb1
        go_wp2_with fail
        refine (HO0.out _ (HC2.out _ HB1.out).2).mono ?_
        rintro e y3 ⟨rfl, hb3⟩
        have HB3 := Lib.hid (since_step HB1.out hb3)
        clear hb3
        go_wp2_with fail
        go_meet
        case rel => exact ⟨rfl, HB3.out⟩
    case rest =>
      obtain ⟨rfl, hb10⟩ := hcut
      generalize wc = v10 at *
      have HB10 := Lib.hid hb10
      clear hb10 HB9
      have HB11 := Lib.hid (HC2.out _ HB10.out).2
      cases OK with
      | false =>
        have HL := Lib.hid (HLV.out v10 HB11.out)
        have e1 : prE false = 3 := rfl
        rw [e1]
        clear e1
        go_wp2_with fail
        refine HL.out.mono ?_
        rintro e y1 ⟨rfl, hb1⟩
        have hB1 := (HC2.out _ (since_step HB10.out hb1)).2
        go_wp2_with fail
        go_ret
        exact ⟨rfl, hB1⟩
      | true =>
        have e1 : prE true = 0 := rfl
        rw [e1]
        clear e1
        have HP := Lib.hid (HPL.out v10 HB11.out)
        go_wp2_with fail
        refine HP.out.mono ?_
        rintro e y1 ⟨hp1, hb1⟩
        obtain ⟨p1, p2, p3⟩ := HPB.out (by first | trivial | rfl)
        obtain ⟨A7, c7, rfl, _, _, hs7⟩ := pres_ok hp1 p1
        rw [p3] at hs7
        rw [p2, p3]
        have e7 : Value.agg (cbox [z0, z1, z2, z3, z4, z5, z6, z7, z8, z9, z10, z11, z12] (.slice A7 L.length c7)) = .agg #[.int .i64 z0, .int .i64 z1, .int .i64 z2, .int .i64 z3, .int .i64 z4, .int .i64 z5, .int .i64 z6, .int .i64 z7, .int .i64 z8, .int .i64 z9, .int .i64 z10, .int .i64 z11, .int .i64 z12, .slice A7 L.length c7] := rfl
        rw [e7]
        have hal := since_alloc (Below.refl _ y1) (.cells #[.int .i64 z0, .int .i64 z1, .int .i64 z2, .int .i64 z3, .int .i64 z4, .int .i64 z5, .int .i64 z6, .int .i64 z7, .int .i64 z8, .int .i64 z9, .int .i64 z10, .int .i64 z11, .int .i64 z12, .slice A7 L.length c7] 26)
        have hzz := heap_alloc_new y1 (.cells #[.int .i64 z0, .int .i64 z1, .int .i64 z2, .int .i64 z3, .int .i64 z4, .int .i64 z5, .int .i64 z6, .int .i64 z7, .int .i64 z8, .int .i64 z9, .int .i64 z10, .int .i64 z11, .int .i64 z12, .slice A7 L.length c7] 26)
        obtain ⟨zb, hzb⟩ : ∃ zb, y1.heap.size = zb := ⟨_, rfl⟩
        obtain ⟨Z7, hZ7⟩ : ∃ Z7, y1.alloc (.cells #[.int .i64 z0, .int .i64 z1, .int .i64 z2, .int .i64 z3, .int .i64 z4, .int .i64 z5, .int .i64 z6, .int .i64 z7, .int .i64 z8, .int .i64 z9, .int .i64 z10, .int .i64 z11, .int .i64 z12, .slice A7 L.length c7] 26) = Z7 := ⟨_, rfl⟩
        rw [hzb] at hzz
        rw [hZ7] at hal hzz
        have hb7 := since_step (since_step HB10.out hb1) hal
        have hs7 := hs7.below hal
        have HZ7 := Lib.hid hZ7
        have HZB := Lib.hid hzb
        obtain ⟨hcb, hB7⟩ := HC2.out Z7 hb7
        have HA := Lib.hid (HSC.out A7 c7 Z7 (HSN.out Z7 hB7) hs7)
        have HBZ := Lib.hid hb7
        obtain ⟨k0, fk0⟩ := hcb.got (o := 0) (by decide)
        obtain ⟨k1, fk1⟩ := hcb.got (o := 1) (by decide)
        obtain ⟨k2, fk2⟩ := hcb.got (o := 2) (by decide)
        obtain ⟨k3, fk3⟩ := hcb.got (o := 3) (by decide)
        obtain ⟨k4, fk4⟩ := hcb.got (o := 4) (by decide)
        obtain ⟨k5, fk5⟩ := hcb.got (o := 5) (by decide)
        obtain ⟨k6, fk6⟩ := hcb.got (o := 6) (by decide)
        obtain ⟨k7, fk7⟩ := hcb.got (o := 7) (by decide)
        obtain ⟨k8, fk8⟩ := hcb.got (o := 8) (by decide)
        obtain ⟨k9, fk9⟩ := hcb.got (o := 9) (by decide)
        obtain ⟨k10, fk10⟩ := hcb.got (o := 10) (by decide)
        obtain ⟨k11, fk11⟩ := hcb.got (o := 11) (by decide)
        obtain ⟨k12, fk12⟩ := hcb.got (o := 12) (by decide)
        obtain ⟨k13, fk13⟩ := hcb.gotV
        have kl := hcb.lt
        simp only [List.getD_cons_zero, List.getD_cons_succ] at k0 k1 k2 k3 k4 k5 k6 k7 k8 k9 k10 k11 k12
        clear fk0 fk1 fk2 fk3 fk4 fk5 fk6 fk7 fk8 fk9 fk10 fk11 fk12 fk13
        have x0 : Z7.cell? ⟨zb, 0, none⟩ = some (.int .i64 z0) := (cell_of_row Z7 zb 0 _ _ (0, 0) hzz).trans rfl
        have x1 : Z7.cell? ⟨zb, 1, none⟩ = some (.int .i64 z1) := (cell_of_row Z7 zb 1 _ _ (0, 0) hzz).trans rfl
        have x2 : Z7.cell? ⟨zb, 2, none⟩ = some (.int .i64 z2) := (cell_of_row Z7 zb 2 _ _ (0, 0) hzz).trans rfl
        have x3 : Z7.cell? ⟨zb, 3, none⟩ = some (.int .i64 z3) := (cell_of_row Z7 zb 3 _ _ (0, 0) hzz).trans rfl
        have x4 : Z7.cell? ⟨zb, 4, none⟩ = some (.int .i64 z4) := (cell_of_row Z7 zb 4 _ _ (0, 0) hzz).trans rfl
        have x5 : Z7.cell? ⟨zb, 5, none⟩ = some (.int .i64 z5) := (cell_of_row Z7 zb 5 _ _ (0, 0) hzz).trans rfl
        have x6 : Z7.cell? ⟨zb, 6, none⟩ = some (.int .i64 z6) := (cell_of_row Z7 zb 6 _ _ (0, 0) hzz).trans rfl
        have x7 : Z7.cell? ⟨zb, 7, none⟩ = some (.int .i64 z7) := (cell_of_row Z7 zb 7 _ _ (0, 0) hzz).trans rfl
        have x8 : Z7.cell? ⟨zb, 8, none⟩ = some (.int .i64 z8) := (cell_of_row Z7 zb 8 _ _ (0, 0) hzz).trans rfl
        have x9 : Z7.cell? ⟨zb, 9, none⟩ = some (.int .i64 z9) := (cell_of_row Z7 zb 9 _ _ (0, 0) hzz).trans rfl
        have x10 : Z7.cell? ⟨zb, 10, none⟩ = some (.int .i64 z10) := (cell_of_row Z7 zb 10 _ _ (0, 0) hzz).trans rfl
        have x11 : Z7.cell? ⟨zb, 11, none⟩ = some (.int .i64 z11) := (cell_of_row Z7 zb 11 _ _ (0, 0) hzz).trans rfl
        have x12 : Z7.cell? ⟨zb, 12, none⟩ = some (.int .i64 z12) := (cell_of_row Z7 zb 12 _ _ (0, 0) hzz).trans rfl
        have x13 : Z7.cell? ⟨zb, 13, none⟩ = some (.slice A7 L.length c7) := (cell_of_row Z7 zb 13 _ _ (0, 0) hzz).trans rfl
        have xl := (Array.getElem?_eq_some_iff.1 hzz).1
        clear hal hzz hzb hZ7 hb7 hs7 hB7 hcb hp1 hb1 p1 p2 p3 e7 HP
        go_upto_region 16 with fail
        rw [HZ7.out, HZB.out]
        go_wp2_with fail
        refine HA.out.mono ?_
        rintro e y8 ⟨rfl, hb8⟩
        have HB8 := Lib.hid (since_step HBZ.out hb8)
        clear x0 k0 x1 k1 x2 k2 x3 k3 x4 k4 x5 k5 x6 k6 x7 k7 x8 k8 x9 k9 x10 k10 x11 k11 x12 k12 x13 k13 xl kl hb8
        go_wp2_with fail
        refine (HLV.out _ (HC2.out _ HB8.out).2).mono ?_
        rintro e y9 ⟨rfl, hb9⟩
        have hB9 := (HC2.out _ (since_step HB8.out hb9)).2
        go_wp2_with fail
        go_ret
        exact ⟨rfl, hB9⟩
end Go.Proofs.YtpmnjojednbnpaaGreatDoor
end
