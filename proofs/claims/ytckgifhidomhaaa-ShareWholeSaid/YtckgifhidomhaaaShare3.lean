/-
  The walks of layer 3, third part: parts.
-/
import Derived.Test.YtckgifhidomhaaaShare2
namespace Go.Proofs.Ytckgifhidomhaaa
open Go.ChangeShapes Go.WideShapes Go.ChangeAt Go.RowKit
set_option linter.unusedVariables false
set_option linter.unusedSimpArgs false

/-- a row of integers in new memory, and an error -/
def rowR (w w' : World) (e : Ending) (v : List Int) (E : Int) : Prop := ∃ A c, e = .returned (.tuple #[.slice A v.length c, .int .i64 E]) ∧ (v.length ≤ c ∧ c ≤ maxLen) ∧ Sl w' A (ints .i64 v) ∧ Fr w.heap.size A v.length

theorem quo_at (t S : Int) (l : List Int) {k : Nat} (h : k < l.length) : (quoL t S l)[k]'(by rw [quo_length]; exact h) = t * l[k] / S := by simp [quoL]
theorem rem_at (t S : Int) (l : List Int) {k : Nat} (h : k < l.length) : (remL t S l).getD k 0 = t * l[k] % S := by
  rw [getD_rem, List.getD_eq_getElem?_getD, List.getElem?_eq_getElem h]; rfl
theorem take_set {α : Type} (xs : List α) (k : Nat) (v : α) (h : k < xs.length) : (xs.set k v).take (k + 1) = xs.take k ++ [v] := by
  rw [take_snoc _ k (by simpa using h), List.take_set_of_le (Nat.le_refl k), List.getElem_set_self]
theorem sum_take_succ (l : List Int) (k : Nat) (h : k < l.length) : (l.take (k + 1)).sum = (l.take k).sum + l[k] := by rw [take_snoc l k h, List.sum_append]; simp

/-- what a quota needs: it is of 64 bits -/
theorem quota_in {t x S : Int} (ht : 0 ≤ t) (h64 : In64 t) (hx : 0 ≤ x) (hxS : x ≤ S) (hS : 0 < S) : 0 ≤ t * x / S ∧ t * x / S ≤ t ∧ In64 (t * x / S) := by
  have h1 : 0 ≤ t * x / S := Int.ediv_nonneg (Int.mul_nonneg ht hx) (by omega)
  have h2 : t * x / S ≤ t := by
    have : t * x ≤ t * S := Int.mul_le_mul_of_nonneg_left hxS ht
    have h3 := Int.ediv_le_ediv hS this
    rwa [Int.mul_ediv_cancel _ (by omega)] at h3
  refine ⟨h1, h2, ?_⟩
  unfold In64 at *
  omega

set_option maxRecDepth 100000 in
set_option maxHeartbeats 8000000 in
theorem parts_any (t : Int) (S : Nat) (A : Option Addr) (cap : Nat) (l : List Int) (w : World) (hl : l.length ≤ 64) (hx : All64 l) (ht : 0 ≤ t) (h64 : In64 t) (hnn : ∀ x ∈ l, 0 ≤ x)
    (hS : l.sum = (S : Int)) (hS0 : 0 < S) (hS64 : S < 9223372036854775808) (hs : Sl w A (ints .i64 l)) :
    Calls Try.prog 41 #[.int .i64 t, .int .i64 (S : Int), .slice A l.length cap] w fun e w' => rowR w w' e (partsV t l) 0 ∧ Below w.heap.size w w' := by
  have hn0 : 0 < l.length := by
    rcases Nat.eq_zero_or_pos l.length with h | h
    · rw [List.eq_nil_of_length_eq_zero h] at hS; simp at hS; omega
    · exact h
  obtain ⟨q, hq⟩ : ∃ q, q = quoL t S l := ⟨_, rfl⟩
  obtain ⟨r, hr⟩ : ∃ r, r = remL t S l := ⟨_, rfl⟩
  have hql : q.length = l.length := by rw [hq, quo_length]
  have hrl : r.length = l.length := by rw [hr, rem_length]
  have hqn : ∀ x ∈ q, 0 ≤ x := by rw [hq]; exact quo_nn ht (by omega) hnn
  have hleft := left_lt (t := t) l (S := S) (by omega) hS
  rw [← hq, ← hr] at hleft
  have hlefr : (t - q.sum).toNat ≤ r.length := by
    have := left_le (t := t) (l := l) (by omega)
    rw [hS, ← hq, ← hr] at this
    exact this
  have hP : partsV t l = bump q r (t - q.sum).toNat := by unfold partsV; rw [hS, hq, hr]
  have HQ : ∀ k, (h : k < l.length) → t * l[k] / (S : Int) = q[k]'(by omega) ∧ t * l[k] % (S : Int) = r.getD k 0 ∧ In64 (t * l[k] / (S : Int)) := by
    intro k h
    have hxk := hnn _ (List.getElem_mem h)
    have hle := (mem_le_sum l hnn).2 _ (List.getElem_mem h)
    refine ⟨?_, ?_, (quota_in ht h64 hxk (by omega) (by omega)).2.2⟩
    · subst hq; rw [quo_at]
    · subst hr; rw [rem_at]
  have HQ := Lib.hid HQ
  have hts : ∀ k, 0 ≤ (q.take k).sum ∧ (q.take k).sum ≤ t := fun k => by have := sum_take_le q hqn k; omega
  have hrn : ∀ k, 0 ≤ r.getD k 0 := by rw [hr]; exact rem_nn (by omega) l
  have HP := Lib.hid hP
  have HL := Lib.hid hql
  have HR := Lib.hid hrl
  have HQE := Lib.hid hq
  have HRE := Lib.hid hr
  have HS := Lib.hid hS
  clear hP hq hr hS
  go_enter Try.func41, Try.ntmps41
  go_wp2_with (first
    | (at_make; refine wpList_zeros rfl (.tmp 19) (.tmp 19) rfl l.length rfl rfl rfl rfl (by omega) (Nat.le_refl _) ?_; intro w1 hown1 hb1)
    | (at_make; refine wpList_mkFull rfl (.tmp 22) (.tmp 22) rfl EC l.length rfl rfl rfl rfl (by omega) (by unfold maxLen; omega) (Nat.le_refl _) ?_; intro w2 hown2 hb2; obtain ⟨z2, hown2, hz2⟩ := hown2)
    | fail)
  have R1 := (Rw.own hown1 hn0).below hb2
  have R2 := Rw.own hown2 hn0
  have hz := hown2.1
  generalize (madeCells z2.cells (l.length * 2)).toList = ys0 at *
  have hB2 : Below w.heap.size w w2 := hb1.trans (hb2.mono hb1.size)
  have hw1 : w.heap.size < w1.heap.size := by
    obtain ⟨g, e, _, h2, _⟩ := own_at hown1 hn0
    injection e with e; injection e with e
    omega
  have hw1s := hb1.size
  clear hown1 hown2 hb1 hb2
  have HBL := Lib.hid (fun (p : Addr) (v : Value) (h : w.cell? p = some v) => World.block_lt_of_cell? w p h)
  generalize hG : w.heap.size = g1 at *
  have HG := Lib.hid hG
  clear hG
  generalize w1.heap.size = g2 at *
  go_loopw [10, 27] (fun v i wr => ∃ (k : Nat) (xs ys : List Value), k ≤ l.length ∧ i = .int .i64 k ∧ v = .int .i64 (t - (q.take k).sum) ∧ Rw wr g1 xs ∧ xs.length = l.length ∧ xs.take k = ints .i64 (q.take k) ∧
    Rw wr g2 ys ∧ ys.length = l.length * 2 ∧ (∀ i, i < k → ys[i * 2]? = some (.int .i64 (i : Int)) ∧ ys[i * 2 + 1]? = some (.int .i64 (r.getD i 0))) ∧ Below g1 w wr) (fun _ i _ => l.length - (intOf i).toNat)
  case atStart =>
    refine ⟨0, _, ys0, by omega, rfl, by simp, R1, by simp [ints], by simp [ints], R2, by omega, fun i hi => absurd hi (by omega), hB2⟩
  case round =>
    clear R1 R2 hB2 hz hz2
    obtain ⟨k, xs, ys, hk, rfl, rfl, RX, hxl, hxt, RY, hyl, hyt, hB⟩ := hrel
    by_cases hlt : k < l.length
    · obtain ⟨b, o, rfl, hzw⟩ := hs.int hlt
      have hbw : b < g1 := HBL.out _ _ hzw
      have hz := (hB.cell (p := ⟨b, o + k, none⟩) hbw).trans hzw
      have hbr : b < wr.heap.size := World.block_lt_of_cell? _ _ hz
      obtain ⟨q1, q2, q3⟩ := HQ.out k hlt
      have hin := hx _ (List.getElem_mem hlt)
      have hsk := sum_take_succ q k (by rw [HL.out]; exact hlt)
      have hts0 := hts k
      have hts1 := hts (k + 1)
      have HSC := fun W => fscale_pos t l[k] S h64 hin hS0 hS64 W
      rw [show sV (t * l[k]) S = q[k] from (if_pos q3).trans q1, show sR (t * l[k]) S = r.getD k 0 from (if_pos q3).trans q2, show sE (t * l[k]) S = 0 from if_pos q3] at HSC
      have HSC := Lib.hid HSC
      have HQT := Lib.hid (take_snoc q k (by rw [HL.out]; exact hlt))
      have HXT := Lib.hid hxt
      have HYT := Lib.hid hyt
      have HSK := Lib.hid hsk
      have HXL := Lib.hid hxl
      have HYL := Lib.hid hyl
      rw [hsk] at hts1
      clear hxt hyt q1 q2 q3 hsk
      generalize q[k] = qk at *
      generalize (q.take k).sum = sq at *
      generalize hrk : r.getD k 0 = rk0 at *
      have HRK := Lib.hid hrk
      clear hrk
      unfold In64 at h64
      go_wp2_with fail
      refine (HSC.out _).mono ?_
      rintro e w3 ⟨rfl, hb3⟩
      have RX3 := RX.below hb3
      have RY3 := RY.below hb3
      have hB3 := hB.trans (hb3.mono (Nat.le_of_lt RX.1))
      clear hb3 RX RY hB hz hbr
      have c0 : xs[k]? = some xs[k] := List.getElem?_eq_getElem (by omega)
      have c1 := RX3.cell c0
      have c2 := RY3.cell (List.getElem?_eq_getElem (show k * 2 < ys.length by omega))
      have c3 := RY3.cell (List.getElem?_eq_getElem (show k * 2 + 1 < ys.length by omega))
      have f1 := RX3.2.2 k
      have f2 := RY3.2.2 (k * 2)
      have f3 := RY3.2.2 (k * 2 + 1)
      have l1 := RX3.1
      have l2 := RY3.1
      clear c0
      go_wp2
      go_roundw
      case rel =>
        refine ⟨k + 1, xs.set k (.int .i64 qk), (ys.set (k * 2) (.int .i64 (k : Int))).set (k * 2 + 1) (.int .i64 rk0), by omega, by go_num, ?_, ((RX3.set (by omega) _).far (by simp; omega) _).far (by simp; omega) _, by simp [hxl], ?_,
          ((RY3.far (by simp; omega) _).set (by omega) _).set (by simp; omega) _, by simp [hyl], ?_, ?_⟩
        · rw [HSK.out]; exact intE (by omega)
        · rw [take_set _ _ _ (by omega), HXT.out, HQT.out, ints_app]; rfl
        · intro i hi
          have h1 : ¬ (k * 2 + 1 = i * 2) := by omega
          have h2 : ¬ (k * 2 = i * 2 + 1) := by omega
          rcases Nat.lt_or_ge i k with h | h
          · obtain ⟨a1, a2⟩ := HYT.out i h
            refine ⟨?_, ?_⟩
            · rw [List.getElem?_set_ne (by omega), List.getElem?_set_ne (by omega)]; exact a1
            · rw [List.getElem?_set_ne (by omega), List.getElem?_set_ne (by omega)]; exact a2
          · obtain rfl : i = k := by omega
            refine ⟨?_, ?_⟩
            · rw [List.getElem?_set_ne (by omega), List.getElem?_set_self (by omega)]
            · rw [List.getElem?_set_self (by first | (simp; done) | (simp; omega)), HRK.out]
        · refine Below.setCell (Below.setCell (Below.setCell hB3 ?_ _) ?_ _) ?_ _ <;> first | (simp; done) | (simp; omega)
      case measure => simp [intOf]; omega
    · obtain rfl : k = l.length := by omega
      have hxq : xs = ints .i64 q := by
        have := hxt
        rwa [List.take_of_length_le (by omega), List.take_of_length_le (by omega)] at this
      have htot : (q.take l.length).sum = q.sum := by rw [List.take_of_length_le (by omega)]
      rw [htot]
      subst hxq
      clear hxt htot
      have HSO := fun W h => sort_any r (by omega) g2 l.length ys W h (by rw [hrl]; exact hyt)
      rw [hrl] at HSO
      have HSO := Lib.hid HSO
      obtain ⟨m, hm⟩ : ∃ m : Nat, t - q.sum = (m : Int) := ⟨(t - q.sum).toNat, by omega⟩
      have hm2 : (t - q.sum).toNat = m := by omega
      rw [hm]
      have hml : m ≤ l.length := by omega
      have HM := Lib.hid hm
      have HM2 := Lib.hid hm2
      clear hyt hm2 hm hleft hlefr
      go_wp2_with fail
      refine (HSO.out _ RY).mono ?_
      rintro e w3 ⟨rfl, ⟨s, hord, hsl, hsc⟩, hb3, hr3, hg3⟩
      have RX3 := hr3 g1 _ (by omega) RX
      have hB3 := hb3 g1 w (by omega) hB
      clear hb3 hr3
      have HSC := Lib.hid hsc
      have HSL := Lib.hid hsl
      have HOR := Lib.hid hord
      have HBZ := Lib.hid (bump_zero q r)
      clear hsc hsl hord RX hB RY
      have hg1 : g1 < w3.heap.size := RX3.1
      go_wp2_with fail
      go_loopw [63] (fun i wz => ∃ k : Nat, k ≤ m ∧ i = .int .i64 k ∧ Rw wz g1 (ints .i64 (bump q r k)) ∧ (∀ j, wz.cell? ⟨g2, j, none⟩ = w3.cell? ⟨g2, j, none⟩) ∧ g2 < wz.heap.size ∧ Below g1 w wz) (fun i _ => m - (intOf i).toNat)
      case atStart => exact ⟨0, by omega, rfl, by rw [HBZ.out]; exact RX3, fun j => rfl, hg3, hB3⟩
      case round =>
        clear RX3 hB3 hg3 hg1
        obtain ⟨k, hkm, rfl, RZ, hcz, hgz, hBz⟩ := hrel
        by_cases hlt2 : k < m
        · have hks : k < s.length := by rw [HSL.out]; omega
          obtain ⟨p, hp⟩ : ∃ p, p = s[k] := ⟨_, rfl⟩
          have hpk : rk r p = k := by rw [hp]; exact HOR.out.rk_at hks
          have hpl : p < r.length := by rw [hp]; exact HOR.out.mem_lt hks
          obtain ⟨c1, x, c2⟩ := HSC.out k p (by rw [List.getElem?_eq_getElem hks, hp])
          rw [← hcz] at c1 c2
          have HCZ := Lib.hid hcz
          have hbl : p < (bump q r k).length := by rw [bump_length]; omega
          have c3 := RZ.int hbl
          have f3 := RZ.2.2 p
          have l1 := RZ.1
          have hbs := Lib.hid (bump_set (q := q) (r := r) (by omega) hbl hpk)
          have hv0 : 0 ≤ (bump q r k)[p] ∧ (bump q r k)[p] + 1 ≤ t := by
            rw [bump_at, hpk, if_neg (by omega)]
            have h1 : q.getD p 0 = q[p]'(by omega) := by rw [List.getD_eq_getElem?_getD, List.getElem?_eq_getElem (by omega)]; rfl
            have h2 := mem_le_sum q hqn
            have h3 := h2.2 _ (List.getElem_mem (show p < q.length by omega))
            have h4 := hqn _ (List.getElem_mem (show p < q.length by omega))
            have := HM.out
            rw [h1]
            omega
          generalize (bump q r k)[p] = v at *
          have hpl2 : p < l.length := by rw [← HR.out]; exact hpl
          have hn1 : ¬ g1 = wr.heap.size := by omega
          have hn2 : ¬ g2 = wr.heap.size := by omega
          have hn3 : ¬ wr.heap.size = g1 := by omega
          have hn4 : ¬ wr.heap.size = g2 := by omega
          unfold In64 at h64
          clear hp hpk hcz hpl
          go_wp2
          go_roundw
          case rel =>
            refine ⟨k + 1, by omega, by go_num, ?_, fun j => ?_, by simp; omega, ?_⟩
            · rw [← hbs.out, ← ints_set]
              exact (RZ.set (by rw [ints_length]; exact hbl) _).alloc _
            · rw [World.cell?_alloc_lt _ _ _ (by simpa using hgz), World.cell?_setCell_other _ _ _ _ (by intro e; injection e with e; omega)]
              exact HCZ.out j
            · refine Below.alloc (Below.setCell hBz ?_ _) ?_ _
              · simp
              · simp; omega
          case measure => simp [intOf]; omega
        · obtain rfl : k = m := by omega
          go_wp2
          go_ret2
          have hpl := partsV_length t l
          have hG := HG.out
          refine ⟨⟨some ⟨g1, 0, none⟩, l.length, by rw [hpl]; rfl, by rw [hpl]; exact ⟨Nat.le_refl _, by unfold maxLen; omega⟩, ?_, ?_⟩, by rw [hG]; exact hBz⟩
          · rw [HP.out, HM2.out]
            exact RZ.2.1
          · intro b o e hn
            injection e with e
            injection e with e
            omega
end Go.Proofs.Ytckgifhidomhaaa
