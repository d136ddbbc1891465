/-
  Layer 34: the document's Same where both are the same; CmdDecodes (laid by gen_cmd12.py).
-/
import Derived.Test.YtpmnjojednbnpaaCmd11
import Derived.Test.YtpmnjojednbnpaaCmd10
namespace Go.Proofs.Ytpmnjojednbnpaa
open Go.ChangeShapes Go.WideShapes Go.ChangeAt Go.RowKit
set_option linter.unusedVariables false
set_option linter.unusedSimpArgs false

set_option maxHeartbeats 4000000 in
set_option maxRecDepth 100000 in
theorem rsamen_self (A B : Option Addr) (ca cb : Nat) (l : List Int) (w : World) (hl : l.length ≤ 1000) (ha : Sl w A (ints .i64 l)) (hb : Sl w B (ints .i64 l)) :
    Calls Try.prog 47 #[.slice A l.length ca, .slice B l.length cb] w fun e w' => e = .returned (.bool true) ∧ Below w.heap.size w w' := by
  have hne : ((l.length : Int) != (l.length : Int)) = false := by simp
  have HA := Lib.hid (fun V (hV : Below w.heap.size w V) k (hk : k < l.length) => (ha.below hV).int hk)
  have HB := Lib.hid (fun V (hV : Below w.heap.size w V) k (hk : k < l.length) => (hb.below hV).int hk)
  clear ha hb
  go_enter Try.func47, Try.ntmps47
  go_wp2_with fail
  go_loopw [5] (fun iv wr => ∃ k : Nat, k ≤ l.length ∧ iv = .int .i64 (k : Int) ∧ Below w.heap.size w wr) (fun iv _ => l.length - (intOf iv).toNat)
  case atStart => exact ⟨0, by omega, rfl, Below.refl _ _⟩
  case round =>
    obtain ⟨k, hk, rfl, hBw⟩ := hrel
    by_cases hkl : k < l.length
    · have hk1 : (k : Int) < (l.length : Int) := by omega
      have hk0 : (0 : Int) ≤ (k : Int) := by omega
      obtain ⟨b1, o1, rfl, h1⟩ := HA.out wr hBw k hkl
      obtain ⟨b2, o2, rfl, h2⟩ := HB.out wr hBw k hkl
      obtain ⟨n, hn⟩ : ∃ n, l[k] = n := ⟨_, rfl⟩
      rw [hn] at h1 h2
      have hnn : (n != n) = false := by simp
      have HBw := Lib.hid hBw
      clear hn hBw
      go_upto_region 6 with fail
      go_quiet (fail)
      have hB2 := below_drewN HBw.out nq
      go_wp2_with fail
      go_roundw
      case rel => exact ⟨k + 1, by omega, by go_num, hB2⟩
      case measure => simp [intOf]; omega
    · obtain rfl : k = l.length := by omega
      go_wp2_with fail
      go_ret
      exact ⟨rfl, hBw⟩
set_option maxHeartbeats 8000000 in
set_option maxRecDepth 100000 in
theorem rsame34 (z0 z1 z2 z3 z4 z5 z6 z7 z8 z9 z10 z11 z12 : Int) (A B : Option Addr) (ca cb : Nat) (l : List Int) (w : World) (hl : l.length ≤ 1000) (ha : Sl w A (ints .i64 l)) (hb : Sl w B (ints .i64 l)) :
    Calls Try.prog 18 #[.agg #[.int .i64 z0, .int .i64 z1, .int .i64 z2, .int .i64 z3, .int .i64 z4, .int .i64 z5, .int .i64 z6, .int .i64 z7, .int .i64 z8, .int .i64 z9, .int .i64 z10, .int .i64 z11, .int .i64 z12, .slice A l.length ca], .agg #[.int .i64 z0, .int .i64 z1, .int .i64 z2, .int .i64 z3, .int .i64 z4, .int .i64 z5, .int .i64 z6, .int .i64 z7, .int .i64 z8, .int .i64 z9, .int .i64 z10, .int .i64 z11, .int .i64 z12, .slice B l.length cb]] w fun e w' => e = .returned (.bool true) ∧ Below w.heap.size w w' := by
  have hb0 := since_step (since_alloc (Below.refl _ w) (.cells #[.int .i64 z0, .int .i64 z1, .int .i64 z2, .int .i64 z3, .int .i64 z4, .int .i64 z5, .int .i64 z6, .int .i64 z7, .int .i64 z8, .int .i64 z9, .int .i64 z10, .int .i64 z11, .int .i64 z12, .slice A l.length ca] 26)) (since_alloc (Below.refl _ (w.alloc (.cells #[.int .i64 z0, .int .i64 z1, .int .i64 z2, .int .i64 z3, .int .i64 z4, .int .i64 z5, .int .i64 z6, .int .i64 z7, .int .i64 z8, .int .i64 z9, .int .i64 z10, .int .i64 z11, .int .i64 z12, .slice A l.length ca] 26))) (.cells #[.int .i64 z0, .int .i64 z1, .int .i64 z2, .int .i64 z3, .int .i64 z4, .int .i64 z5, .int .i64 z6, .int .i64 z7, .int .i64 z8, .int .i64 z9, .int .i64 z10, .int .i64 z11, .int .i64 z12, .slice B l.length cb] 26))
  have HSN := Lib.hid (rsamen_self A B ca cb l _ hl (ha.below hb0) (hb.below hb0))
  have HB0 := Lib.hid hb0
  clear hb0 ha hb
  go_enter Try.func18, Try.ntmps18
  go_wp2_with fail
  refine HSN.out.mono ?_
  rintro e v1 ⟨rfl, hb1⟩
  have hB1 := since_step HB0.out hb1
  go_wp2_with fail
  go_ret
  exact ⟨rfl, hB1⟩
theorem rdS_len : ∀ (l : List (Nat × Int)) (z : List Int) (s : Rs), (rdS l z s).1.length = z.length
  | [], _, _ => rfl
  | p :: r, z, s => by
    show (rdS r (z.set p.1 (rdM s).1) (rdM s).2).1.length = z.length
    rw [rdS_len, List.length_set]
theorem rdF_len : ∀ (l : List Nat) (d : Dc), (rdF l d).z.length = d.z.length
  | [], _ => rfl
  | f :: r, d => by
    rw [rdF_cons, rdF_len]
    unfold rdF1
    split
    · rfl
    · exact rdS_len _ _ _
theorem decC_len (bs : List Nat) : (decC bs).z.length = 13 := by
  unfold decC
  rw [rdF_len]; rfl
theorem okE_okD (bs : List Nat) : okE (decC bs) = okD (decC bs) := by
  unfold okE okD
  rw [ok_is (decC_len bs)]
theorem rdS_in : ∀ (l : List (Nat × Int)) (z : List Int) (s : Rs), (∀ i, In64p (z.getD i 0)) → ∀ i, In64p ((rdS l z s).1.getD i 0)
  | [], _, _, h => h
  | p :: r, z, s, h => by
    refine rdS_in r _ _ (fun i => ?_)
    rw [List.getD_eq_getElem?_getD, List.getElem?_set]
    split
    · split
      · exact rdM_in s
      · simp; exact ⟨by decide, by decide⟩
    · rw [← List.getD_eq_getElem?_getD]; exact h i
theorem rdNs_in : ∀ k (s : Rs), ∀ x ∈ (rdNs k s).1, In64p x
  | 0, s, x, hx => by cases hx
  | k + 1, s, x, hx => by
    rcases List.mem_cons.1 hx with rfl | hx
    · exact rdM_in s
    · exact rdNs_in k _ x hx
theorem rdF_in : ∀ (l : List Nat) (d : Dc), (∀ i, In64p (d.z.getD i 0)) → (∀ x ∈ d.nums, In64p x) → (∀ i, In64p ((rdF l d).z.getD i 0)) ∧ ∀ x ∈ (rdF l d).nums, In64p x
  | [], d, h, g => ⟨h, g⟩
  | f :: r, d, h, g => by
    rw [rdF_cons]
    refine rdF_in r _ ?_ ?_
    · unfold rdF1
      split
      · exact h
      · exact rdS_in _ _ _ h
    · unfold rdF1
      split
      · exact rdNs_in _ _
      · exact g
theorem decC_in (bs : List Nat) : (∀ i, In64p ((decC bs).z.getD i 0)) ∧ ∀ x ∈ (decC bs).nums, In64p x := by
  unfold decC
  refine rdF_in _ _ (fun i => ?_) (fun x hx => by cases hx)
  match i with
  | 0 => exact rdM_in _
  | 1 => exact rdM_in _
  | i + 2 =>
    have : ∀ j, (List.replicate 11 (0 : Int)).getD j 0 = 0 := fun j => by
      rw [List.getD_eq_getElem?_getD, List.getElem?_replicate]
      split <;> rfl
    have h2 := this i
    rw [List.getD_cons_succ, List.getD_cons_succ]
    have e : ([0, 0, 0, 0, 0, 0, 0, 0, 0, 0, 0] : List Int) = List.replicate 11 0 := rfl
    rw [e, h2]
    exact ⟨by decide, by decide⟩
theorem rc_oct34 (l : List Nat) : rc (fun n : Nat => [Value.int .u8 (n : Int)]) l = by8 l := by
  unfold rc by8
  induction l with
  | nil => rfl
  | cons a l ih => simp only [List.map_cons, List.flatten_cons, ih]; rfl
theorem rd_oct34 {w : World} {r : List Value} (h : Rd w (.int .u8) r) : ∃ n : Nat, r = [.int .u8 (n : Int)] ∧ n < 256 := by
  obtain ⟨n, rfl, hn⟩ := h
  have := bd_u8 hn
  exact ⟨n.toNat, by rw [show ((n.toNat : Nat) : Int) = n by omega], by omega⟩
theorem rd_bytes {w : World} {A : Option Addr} {n c : Nat} (h : Rd w (.sl (.int .u8)) [.slice A n c]) : ∃ l : List Nat, l.length = n ∧ n ≤ c ∧ c ≤ maxLen ∧ Sl w A (by8 l) ∧ Oct l := by
  obtain ⟨l8, h1, h2, h3, h4, h5⟩ := rd_rowsP (f := fun n : Nat => [Value.int .u8 (n : Int)]) (fun r => rd_oct34) h
  rw [rc_oct34] at h4
  exact ⟨l8, h1, h2, h3, h4, h5⟩

theorem dres_sl {W : Nat} {w : World} {e : Ending} {ok : Bool} {z nums : List Int} (h : DRes34 W w e ok z nums) (hz : z.length = 13) : ∃ (y0 y1 y2 y3 y4 y5 y6 y7 y8 y9 y10 y11 y12 : Int) (A : Option Addr) (c : Nat), (if ok = true then z else List.replicate 13 0) = [y0, y1, y2, y3, y4, y5, y6, y7, y8, y9, y10, y11, y12] ∧ e = .returned (.tuple #[.agg #[.int .i64 y0, .int .i64 y1, .int .i64 y2, .int .i64 y3, .int .i64 y4, .int .i64 y5, .int .i64 y6, .int .i64 y7, .int .i64 y8, .int .i64 y9, .int .i64 y10, .int .i64 y11, .int .i64 y12, .slice A (if ok = true then nums else []).length c], .int .i64 (if ok = true then 0 else 3)]) ∧ Sl w A (ints .i64 (if ok = true then nums else [])) := by
  unfold DRes34 at h
  cases ok with
  | true =>
    rw [if_pos rfl] at h
    obtain ⟨A, c, rfl, own⟩ := h
    match z, hz with
    | [y0, y1, y2, y3, y4, y5, y6, y7, y8, y9, y10, y11, y12], _ => exact ⟨_, _, _, _, _, _, _, _, _, _, _, _, _, A, c, rfl, rfl, Sl.of_own own⟩
  | false =>
    rw [if_neg (by decide)] at h
    subst h
    exact ⟨0, 0, 0, 0, 0, 0, 0, 0, 0, 0, 0, 0, 0, none, 0, rfl, rfl, Sl.nil⟩
theorem ok_zero : okZ (List.replicate 13 0) 0 = false := by decide
theorem repl_in (i : Nat) : In64p ((List.replicate 13 (0 : Int)).getD i 0) := by
  rw [List.getD_eq_getElem?_getD, List.getElem?_replicate]
  split <;> exact ⟨by decide, by decide⟩

set_option maxHeartbeats 16000000 in
set_option maxRecDepth 100000 in
theorem walk_CmdDecodes (a0 : Option Addr) (n0 c0 : Nat) (a1 : Array Value) (w : World) (w0 : Go.Proofs.Ytpmnjojednbnpaa.Rd w (.sl (.int .u8)) [.slice a0 n0 c0]) (w1 : Go.Proofs.Ytpmnjojednbnpaa.Rd w (.cat (.int .i64) (.cat (.int .i64) (.cat (.int .i64) (.cat (.cat (.int .i64) (.cat (.int .i64) .nil)) (.cat (.cat (.int .i64) (.cat (.int .i64) .nil)) (.cat (.int .i64) (.cat (.int .i64) (.cat (.int .i64) (.cat (.int .i64) (.cat (.int .i64) (.cat (.int .i64) (.cat (.sl (.int .i64)) .nil)))))))))))) a1.toList) :
    Calls Try.prog 4 #[.slice a0 n0 c0, .agg a1] w fun e w' => e = .returned (.bool true) ∧ Below w.heap.size w w' := by
  obtain ⟨z0, z1, z2, z3, z4, z5, z6, z7, z8, z9, z10, z11, z12, A, cap, nums, rfl, h6z, hnc, hcm, hsl, h6⟩ := rd_cmd w1
  obtain ⟨bs, hbs, hbc, hbm, hbS, hbO⟩ := rd_bytes w0
  subst hbs
  obtain ⟨LB, hLB⟩ : ∃ LB, bs.take 400 = LB := ⟨_, rfl⟩
  have hmb : min bs.length 400 = LB.length := by rw [← hLB, List.length_take]; omega
  have hLBl : LB.length ≤ 400 := by omega
  have hLBO : Oct LB := by rw [← hLB]; exact hbO.take 400
  have hLBS : Sl w a0 (by8 LB) := by
    have := hbS.take 400
    rw [← by8_take, hLB] at this
    exact this
  have HMB := Lib.hid hmb
  unfold maxLen at hbm
  have HN0 := Lib.hid (show bs.length ≤ 9223372036854775807 by omega)
  have HNC := Lib.hid hbc
  have HCC := Lib.hid (show c0 ≤ 9223372036854775807 by omega)
  have HLBC : Hid (LB.length ≤ c0) := Lib.hid (by omega)
  obtain ⟨L, hL⟩ : ∃ L, nums.take 40 = L := ⟨_, rfl⟩
  have hmin : min nums.length 40 = L.length := by rw [← hL, List.length_take]; omega
  have hL40 : L.length ≤ 40 := by omega
  have h6L : ∀ x ∈ L, In64p x := fun x hx => h6 x (by rw [← hL] at hx; exact List.mem_of_mem_take hx)
  have hslL : Sl w A (ints .i64 L) := by
    have := hsl.take 40
    rw [← hL]
    simpa [ints, List.map_take] using this
  have HSH := Lib.hid (fun V => short34 z0 z1 z2 z3 z4 z5 z6 z7 z8 z9 z10 z11 z12 A nums.length cap V hnc hcm (fun h => by
    obtain ⟨b, o, e, _⟩ := hsl.int (j := 0) (by omega)
    rw [e]; exact fun h => by cases h))
  rw [hmin] at HSH
  have hCB0 : CB (w.alloc (.cells #[.int .i64 z0, .int .i64 z1, .int .i64 z2, .int .i64 z3, .int .i64 z4, .int .i64 z5, .int .i64 z6, .int .i64 z7, .int .i64 z8, .int .i64 z9, .int .i64 z10, .int .i64 z11, .int .i64 z12, .slice A nums.length cap] 26)) w.heap.size [z0, z1, z2, z3, z4, z5, z6, z7, z8, z9, z10, z11, z12] (.slice A nums.length cap) := ⟨heap_alloc_new w _, rfl⟩
  have hB0 : Below w.heap.size w (w.alloc (.cells #[.int .i64 z0, .int .i64 z1, .int .i64 z2, .int .i64 z3, .int .i64 z4, .int .i64 z5, .int .i64 z6, .int .i64 z7, .int .i64 z8, .int .i64 z9, .int .i64 z10, .int .i64 z11, .int .i64 z12, .slice A nums.length cap] 26)) := since_alloc (Below.refl _ w) _
  obtain ⟨b, hb⟩ : ∃ b, w.heap.size = b := ⟨_, rfl⟩
  have HBW := Lib.hid hb
  have HSN : Hid (∀ V, Below b w V → Sl V A (ints .i64 L)) := Lib.hid fun V hV => hslL.below (by rw [hb]; exact hV)
  have HSB : Hid (∀ V, Below b w V → Sl V a0 (by8 LB)) := Lib.hid fun V hV => hLBS.below (by rw [hb]; exact hV)
  rw [hb] at hCB0 hB0 ⊢
  obtain ⟨W1, hW1⟩ : ∃ W1, w.alloc (.cells #[.int .i64 z0, .int .i64 z1, .int .i64 z2, .int .i64 z3, .int .i64 z4, .int .i64 z5, .int .i64 z6, .int .i64 z7, .int .i64 z8, .int .i64 z9, .int .i64 z10, .int .i64 z11, .int .i64 z12, .slice A nums.length cap] 26) = W1 := ⟨_, rfl⟩
  have HW1 := Lib.hid hW1
  rw [hW1] at hCB0 hB0
  have HCB0 := Lib.hid (fun V (hV : Below W1.heap.size W1 V) => hCB0.below hV)
  have HBW0 := Lib.hid hB0
  have HBLE := Lib.hid (Nat.le_of_lt hCB0.lt)
  have H6Z := Lib.hid h6z
  have H6L := Lib.hid h6L
  have HLO := Lib.hid hLBO
  have HLV := Lib.hid (fun V => lives34_any V)
  clear w0 w1 h6z hnc hcm hsl h6 hmin hL h6L hslL hb hCB0 hB0 hW1 hmb hLB hLBO hLBS hbc hbm hbS hbO
  go_enter Try.func4, Try.ntmps4
  go_upto_region 1 with fail
  rw [HW1.out, HBW.out]
  go_cut [0] (fun s wx => s = .slice a0 LB.length c0 ∧ CB wx b [z0, z1, z2, z3, z4, z5, z6, z7, z8, z9, z10, z11, z12] (.slice A L.length cap) ∧ Below b w wx)
  case first =>
    refine wp_region_held_drew (S := (fun V => Below b w V)) (by kernel_rfl) (by exact (HBW0.out.trans ((Below.refl _ W1).drew.mono HBLE.out))) (fun hHeld => ?_)
    refine wpAnyH_take (i := 0) (oi := { dst := some 15, op := _, type := _, pos := _, after := _, guard := _ }) (v := ?_) rfl (by kernel_rfl) (by kernel_rfl) (by kernel_rfl) (fun _ _ _ h => h) (Or.inl ⟨by rfl, ?_⟩) hHeld ?_
    rotate_left
    · (intro w hSw; clear hSw; go_simp <;> with_reducible rfl)
    try simp only [Act.put, List.setIfInBounds_toArray, List.set_cons_zero, List.set_cons_succ]
    refine wpAnyH_ready (rs := [1, 2]) (by kernel_rfl) (by simp) ?_
    refine AllReadyH.cons (o := { dst := some 16, op := _, type := _, pos := _, after := _, guard := _ }) rfl (fun K hK => ?_) (AllReadyH.cons (o := { dst := some 17, op := _, type := _, pos := _, after := _, guard := _ }) rfl (fun K hK => ?_) AllReadyH.nil)
    · go_simp
      refine (cut_any a0 bs.length c0 400 _ HN0.out (by omega) HNC.out HCC.out).mono ?_
      rintro e v0 ⟨rfl, rfl⟩
      have hKeep := hHeld
      go_wp2_with fail
      refine hK.out _ _ (by (try dsimp only); exact hKeep) (fun hHeld => ?_)
      clear hK K hKeep
      try simp only [Act.put, List.setIfInBounds_toArray, List.set_cons_zero, List.set_cons_succ]
      refine wpAnyH_ready (rs := [2]) (by kernel_rfl) (by simp) ?_
      refine AllReadyH.cons (o := { dst := some 17, op := _, type := _, pos := _, after := _, guard := _ }) rfl (fun K hK => ?_) AllReadyH.nil
      have hHd := hHeld
      skip
      obtain ⟨k0, fk0⟩ := (HCB0.out _ (Below.refl _ W1).drew).got (o := 0) (by decide)
      obtain ⟨k1, fk1⟩ := (HCB0.out _ (Below.refl _ W1).drew).got (o := 1) (by decide)
      obtain ⟨k2, fk2⟩ := (HCB0.out _ (Below.refl _ W1).drew).got (o := 2) (by decide)
      obtain ⟨k3, fk3⟩ := (HCB0.out _ (Below.refl _ W1).drew).got (o := 3) (by decide)
      obtain ⟨k4, fk4⟩ := (HCB0.out _ (Below.refl _ W1).drew).got (o := 4) (by decide)
      obtain ⟨k5, fk5⟩ := (HCB0.out _ (Below.refl _ W1).drew).got (o := 5) (by decide)
      obtain ⟨k6, fk6⟩ := (HCB0.out _ (Below.refl _ W1).drew).got (o := 6) (by decide)
      obtain ⟨k7, fk7⟩ := (HCB0.out _ (Below.refl _ W1).drew).got (o := 7) (by decide)
      obtain ⟨k8, fk8⟩ := (HCB0.out _ (Below.refl _ W1).drew).got (o := 8) (by decide)
      obtain ⟨k9, fk9⟩ := (HCB0.out _ (Below.refl _ W1).drew).got (o := 9) (by decide)
      obtain ⟨k10, fk10⟩ := (HCB0.out _ (Below.refl _ W1).drew).got (o := 10) (by decide)
      obtain ⟨k11, fk11⟩ := (HCB0.out _ (Below.refl _ W1).drew).got (o := 11) (by decide)
      obtain ⟨k12, fk12⟩ := (HCB0.out _ (Below.refl _ W1).drew).got (o := 12) (by decide)
      obtain ⟨kv, fkv⟩ := (HCB0.out _ (Below.refl _ W1).drew).gotV
      have hbk := (HCB0.out _ (Below.refl _ W1).drew).lt
      simp only [List.getD_cons_zero, List.getD_cons_succ] at k0 k1 k2 k3 k4 k5 k6 k7 k8 k9 k10 k11 k12
      have hKeep := hHeld
      go_simp
      refine hK.out _ _ (by (try dsimp only); exact hKeep) (fun hHeld => ?_)
      clear hK K hKeep
      try simp only [Act.put, List.setIfInBounds_toArray, List.set_cons_zero, List.set_cons_succ]
      refine wpAnyH_ready (rs := [3]) (by kernel_rfl) (by simp) ?_
      refine AllReadyH.cons (o := { dst := some 18, op := _, type := _, pos := _, after := _, guard := _ }) rfl (fun K hK => ?_) AllReadyH.nil
      go_simp
      refine (HSH.out _).mono ?_
      rintro e v1 ⟨rfl, hb1⟩
      have hB01 : Below W1.heap.size W1 v1 := (Below.refl _ W1).drew.trans hb1
      have hB1 : Below b w v1 := HBW0.out.trans (hB01.mono HBLE.out)
      have hKeep : Below b w v1 := hB1
      have hcb1 := HCB0.out v1 hB01
      clear k0 fk0 k1 fk1 k2 fk2 k3 fk3 k4 fk4 k5 fk5 k6 fk6 k7 fk7 k8 fk8 k9 fk9 k10 fk10 k11 fk11 k12 fk12 kv fkv hbk
      obtain ⟨m0, fm0⟩ := hcb1.got (o := 0) (by decide)
      obtain ⟨m1, fm1⟩ := hcb1.got (o := 1) (by decide)
      obtain ⟨m2, fm2⟩ := hcb1.got (o := 2) (by decide)
      obtain ⟨m3, fm3⟩ := hcb1.got (o := 3) (by decide)
      obtain ⟨m4, fm4⟩ := hcb1.got (o := 4) (by decide)
      obtain ⟨m5, fm5⟩ := hcb1.got (o := 5) (by decide)
      obtain ⟨m6, fm6⟩ := hcb1.got (o := 6) (by decide)
      obtain ⟨m7, fm7⟩ := hcb1.got (o := 7) (by decide)
      obtain ⟨m8, fm8⟩ := hcb1.got (o := 8) (by decide)
      obtain ⟨m9, fm9⟩ := hcb1.got (o := 9) (by decide)
      obtain ⟨m10, fm10⟩ := hcb1.got (o := 10) (by decide)
      obtain ⟨m11, fm11⟩ := hcb1.got (o := 11) (by decide)
      obtain ⟨m12, fm12⟩ := hcb1.got (o := 12) (by decide)
      obtain ⟨mv, fmv⟩ := hcb1.gotV
      have hbm := hcb1.lt
      simp only [List.getD_cons_zero, List.getD_cons_succ] at m0 m1 m2 m3 m4 m5 m6 m7 m8 m9 m10 m11 m12
      go_wp2_with fail
      refine hK.out _ _ (by (try dsimp only); exact hKeep) (fun hHeld => ?_)
      clear hK K hKeep
      try simp only [Act.put, List.setIfInBounds_toArray, List.set_cons_zero, List.set_cons_succ]
      refine wpAnyH_take (i := 4) (oi := { dst := some 0, op := _, type := _, pos := _, after := _, guard := _ }) (v := ?_) rfl (by kernel_rfl) (by kernel_rfl) (by kernel_rfl) (fun _ _ _ h => h) (Or.inl ⟨by rfl, ?_⟩) hHeld ?_
      rotate_left
      · (intro w hSw; clear hSw; go_simp <;> with_reducible rfl)
      try simp only [Act.put, List.setIfInBounds_toArray, List.set_cons_zero, List.set_cons_succ]
      refine wpAnyH_ready (rs := [5]) (by kernel_rfl) (by simp) ?_
      refine AllReadyH.cons (o := { dst := none, op := _, type := _, pos := _, after := _, guard := _ }) rfl (fun K hK => ?_) AllReadyH.nil
      have hHd := hHeld
      skip
      have hcb2 : CB ((((((((((((((v1.setCell ⟨b, 0, none⟩ (.int .i64 z0)).setCell ⟨b, 1, none⟩ (.int .i64 z1)).setCell ⟨b, 2, none⟩ (.int .i64 z2)).setCell ⟨b, 3, none⟩ (.int .i64 z3)).setCell ⟨b, 4, none⟩ (.int .i64 z4)).setCell ⟨b, 5, none⟩ (.int .i64 z5)).setCell ⟨b, 6, none⟩ (.int .i64 z6)).setCell ⟨b, 7, none⟩ (.int .i64 z7)).setCell ⟨b, 8, none⟩ (.int .i64 z8)).setCell ⟨b, 9, none⟩ (.int .i64 z9)).setCell ⟨b, 10, none⟩ (.int .i64 z10)).setCell ⟨b, 11, none⟩ (.int .i64 z11)).setCell ⟨b, 12, none⟩ (.int .i64 z12)).setCell ⟨b, 13, none⟩ (.slice A L.length cap)) b [z0, z1, z2, z3, z4, z5, z6, z7, z8, z9, z10, z11, z12] (.slice A L.length cap) := (((((((((((((hcb1.put (o := 0) (by decide) z0).put (o := 1) (by decide) z1).put (o := 2) (by decide) z2).put (o := 3) (by decide) z3).put (o := 4) (by decide) z4).put (o := 5) (by decide) z5).put (o := 6) (by decide) z6).put (o := 7) (by decide) z7).put (o := 8) (by decide) z8).put (o := 9) (by decide) z9).put (o := 10) (by decide) z10).put (o := 11) (by decide) z11).put (o := 12) (by decide) z12).putV (.slice A L.length cap)
      have hKeep : Below b w ((((((((((((((v1.setCell ⟨b, 0, none⟩ (.int .i64 z0)).setCell ⟨b, 1, none⟩ (.int .i64 z1)).setCell ⟨b, 2, none⟩ (.int .i64 z2)).setCell ⟨b, 3, none⟩ (.int .i64 z3)).setCell ⟨b, 4, none⟩ (.int .i64 z4)).setCell ⟨b, 5, none⟩ (.int .i64 z5)).setCell ⟨b, 6, none⟩ (.int .i64 z6)).setCell ⟨b, 7, none⟩ (.int .i64 z7)).setCell ⟨b, 8, none⟩ (.int .i64 z8)).setCell ⟨b, 9, none⟩ (.int .i64 z9)).setCell ⟨b, 10, none⟩ (.int .i64 z10)).setCell ⟨b, 11, none⟩ (.int .i64 z11)).setCell ⟨b, 12, none⟩ (.int .i64 z12)).setCell ⟨b, 13, none⟩ (.slice A L.length cap)) := (Below.setB (Below.setB (Below.setB (Below.setB (Below.setB (Below.setB (Below.setB (Below.setB (Below.setB (Below.setB (Below.setB (Below.setB (Below.setB (Below.setB hB1 (q := ⟨b, 0, none⟩) (Nat.le_refl _) (.int .i64 z0)) (q := ⟨b, 1, none⟩) (Nat.le_refl _) (.int .i64 z1)) (q := ⟨b, 2, none⟩) (Nat.le_refl _) (.int .i64 z2)) (q := ⟨b, 3, none⟩) (Nat.le_refl _) (.int .i64 z3)) (q := ⟨b, 4, none⟩) (Nat.le_refl _) (.int .i64 z4)) (q := ⟨b, 5, none⟩) (Nat.le_refl _) (.int .i64 z5)) (q := ⟨b, 6, none⟩) (Nat.le_refl _) (.int .i64 z6)) (q := ⟨b, 7, none⟩) (Nat.le_refl _) (.int .i64 z7)) (q := ⟨b, 8, none⟩) (Nat.le_refl _) (.int .i64 z8)) (q := ⟨b, 9, none⟩) (Nat.le_refl _) (.int .i64 z9)) (q := ⟨b, 10, none⟩) (Nat.le_refl _) (.int .i64 z10)) (q := ⟨b, 11, none⟩) (Nat.le_refl _) (.int .i64 z11)) (q := ⟨b, 12, none⟩) (Nat.le_refl _) (.int .i64 z12)) (q := ⟨b, 13, none⟩) (Nat.le_refl _) (.slice A L.length cap))
      skip
      go_simp
      refine hK.out _ _ (by (try dsimp only); exact hKeep) (fun hHeld => ?_)
      clear hK K hKeep
      try simp only [Act.put, List.setIfInBounds_toArray, List.set_cons_zero, List.set_cons_succ]
      refine wpAnyH_done (by kernel_rfl) ?_ _
      go_wp2_with fail
      go_meet
      case rel => exact ⟨by rw [HMB.out], hcb2, hHeld⟩
    · have hHd := hHeld
      skip
      obtain ⟨k0, fk0⟩ := (HCB0.out _ (Below.refl _ W1).drew).got (o := 0) (by decide)
      obtain ⟨k1, fk1⟩ := (HCB0.out _ (Below.refl _ W1).drew).got (o := 1) (by decide)
      obtain ⟨k2, fk2⟩ := (HCB0.out _ (Below.refl _ W1).drew).got (o := 2) (by decide)
      obtain ⟨k3, fk3⟩ := (HCB0.out _ (Below.refl _ W1).drew).got (o := 3) (by decide)
      obtain ⟨k4, fk4⟩ := (HCB0.out _ (Below.refl _ W1).drew).got (o := 4) (by decide)
      obtain ⟨k5, fk5⟩ := (HCB0.out _ (Below.refl _ W1).drew).got (o := 5) (by decide)
      obtain ⟨k6, fk6⟩ := (HCB0.out _ (Below.refl _ W1).drew).got (o := 6) (by decide)
      obtain ⟨k7, fk7⟩ := (HCB0.out _ (Below.refl _ W1).drew).got (o := 7) (by decide)
      obtain ⟨k8, fk8⟩ := (HCB0.out _ (Below.refl _ W1).drew).got (o := 8) (by decide)
      obtain ⟨k9, fk9⟩ := (HCB0.out _ (Below.refl _ W1).drew).got (o := 9) (by decide)
      obtain ⟨k10, fk10⟩ := (HCB0.out _ (Below.refl _ W1).drew).got (o := 10) (by decide)
      obtain ⟨k11, fk11⟩ := (HCB0.out _ (Below.refl _ W1).drew).got (o := 11) (by decide)
      obtain ⟨k12, fk12⟩ := (HCB0.out _ (Below.refl _ W1).drew).got (o := 12) (by decide)
      obtain ⟨kv, fkv⟩ := (HCB0.out _ (Below.refl _ W1).drew).gotV
      have hbk := (HCB0.out _ (Below.refl _ W1).drew).lt
      simp only [List.getD_cons_zero, List.getD_cons_succ] at k0 k1 k2 k3 k4 k5 k6 k7 k8 k9 k10 k11 k12
      have hKeep := hHeld
      go_simp
      refine hK.out _ _ (by (try dsimp only); exact hKeep) (fun hHeld => ?_)
      clear hK K hKeep
      try simp only [Act.put, List.setIfInBounds_toArray, List.set_cons_zero, List.set_cons_succ]
      refine wpAnyH_ready (rs := [1]) (by kernel_rfl) (by simp) ?_
      refine AllReadyH.cons (o := { dst := some 16, op := _, type := _, pos := _, after := _, guard := _ }) rfl (fun K hK => ?_) AllReadyH.nil
      go_simp
      refine (cut_any a0 bs.length c0 400 _ HN0.out (by omega) HNC.out HCC.out).mono ?_
      rintro e v0 ⟨rfl, rfl⟩
      have hKeep := hHeld
      go_wp2_with fail
      refine hK.out _ _ (by (try dsimp only); exact hKeep) (fun hHeld => ?_)
      clear hK K hKeep
      try simp only [Act.put, List.setIfInBounds_toArray, List.set_cons_zero, List.set_cons_succ]
      refine wpAnyH_ready (rs := [3]) (by kernel_rfl) (by simp) ?_
      refine AllReadyH.cons (o := { dst := some 18, op := _, type := _, pos := _, after := _, guard := _ }) rfl (fun K hK => ?_) AllReadyH.nil
      go_simp
      refine (HSH.out _).mono ?_
      rintro e v1 ⟨rfl, hb1⟩
      have hB01 : Below W1.heap.size W1 v1 := (Below.refl _ W1).drew.trans hb1
      have hB1 : Below b w v1 := HBW0.out.trans (hB01.mono HBLE.out)
      have hKeep : Below b w v1 := hB1
      have hcb1 := HCB0.out v1 hB01
      clear k0 fk0 k1 fk1 k2 fk2 k3 fk3 k4 fk4 k5 fk5 k6 fk6 k7 fk7 k8 fk8 k9 fk9 k10 fk10 k11 fk11 k12 fk12 kv fkv hbk
      obtain ⟨m0, fm0⟩ := hcb1.got (o := 0) (by decide)
      obtain ⟨m1, fm1⟩ := hcb1.got (o := 1) (by decide)
      obtain ⟨m2, fm2⟩ := hcb1.got (o := 2) (by decide)
      obtain ⟨m3, fm3⟩ := hcb1.got (o := 3) (by decide)
      obtain ⟨m4, fm4⟩ := hcb1.got (o := 4) (by decide)
      obtain ⟨m5, fm5⟩ := hcb1.got (o := 5) (by decide)
      obtain ⟨m6, fm6⟩ := hcb1.got (o := 6) (by decide)
      obtain ⟨m7, fm7⟩ := hcb1.got (o := 7) (by decide)
      obtain ⟨m8, fm8⟩ := hcb1.got (o := 8) (by decide)
      obtain ⟨m9, fm9⟩ := hcb1.got (o := 9) (by decide)
      obtain ⟨m10, fm10⟩ := hcb1.got (o := 10) (by decide)
      obtain ⟨m11, fm11⟩ := hcb1.got (o := 11) (by decide)
      obtain ⟨m12, fm12⟩ := hcb1.got (o := 12) (by decide)
      obtain ⟨mv, fmv⟩ := hcb1.gotV
      have hbm := hcb1.lt
      simp only [List.getD_cons_zero, List.getD_cons_succ] at m0 m1 m2 m3 m4 m5 m6 m7 m8 m9 m10 m11 m12
      go_wp2_with fail
      refine hK.out _ _ (by (try dsimp only); exact hKeep) (fun hHeld => ?_)
      clear hK K hKeep
      try simp only [Act.put, List.setIfInBounds_toArray, List.set_cons_zero, List.set_cons_succ]
      refine wpAnyH_take (i := 4) (oi := { dst := some 0, op := _, type := _, pos := _, after := _, guard := _ }) (v := ?_) rfl (by kernel_rfl) (by kernel_rfl) (by kernel_rfl) (fun _ _ _ h => h) (Or.inl ⟨by rfl, ?_⟩) hHeld ?_
      rotate_left
      · (intro w hSw; clear hSw; go_simp <;> with_reducible rfl)
      try simp only [Act.put, List.setIfInBounds_toArray, List.set_cons_zero, List.set_cons_succ]
      refine wpAnyH_ready (rs := [5]) (by kernel_rfl) (by simp) ?_
      refine AllReadyH.cons (o := { dst := none, op := _, type := _, pos := _, after := _, guard := _ }) rfl (fun K hK => ?_) AllReadyH.nil
      have hHd := hHeld
      skip
      have hcb2 : CB ((((((((((((((v1.setCell ⟨b, 0, none⟩ (.int .i64 z0)).setCell ⟨b, 1, none⟩ (.int .i64 z1)).setCell ⟨b, 2, none⟩ (.int .i64 z2)).setCell ⟨b, 3, none⟩ (.int .i64 z3)).setCell ⟨b, 4, none⟩ (.int .i64 z4)).setCell ⟨b, 5, none⟩ (.int .i64 z5)).setCell ⟨b, 6, none⟩ (.int .i64 z6)).setCell ⟨b, 7, none⟩ (.int .i64 z7)).setCell ⟨b, 8, none⟩ (.int .i64 z8)).setCell ⟨b, 9, none⟩ (.int .i64 z9)).setCell ⟨b, 10, none⟩ (.int .i64 z10)).setCell ⟨b, 11, none⟩ (.int .i64 z11)).setCell ⟨b, 12, none⟩ (.int .i64 z12)).setCell ⟨b, 13, none⟩ (.slice A L.length cap)) b [z0, z1, z2, z3, z4, z5, z6, z7, z8, z9, z10, z11, z12] (.slice A L.length cap) := (((((((((((((hcb1.put (o := 0) (by decide) z0).put (o := 1) (by decide) z1).put (o := 2) (by decide) z2).put (o := 3) (by decide) z3).put (o := 4) (by decide) z4).put (o := 5) (by decide) z5).put (o := 6) (by decide) z6).put (o := 7) (by decide) z7).put (o := 8) (by decide) z8).put (o := 9) (by decide) z9).put (o := 10) (by decide) z10).put (o := 11) (by decide) z11).put (o := 12) (by decide) z12).putV (.slice A L.length cap)
      have hKeep : Below b w ((((((((((((((v1.setCell ⟨b, 0, none⟩ (.int .i64 z0)).setCell ⟨b, 1, none⟩ (.int .i64 z1)).setCell ⟨b, 2, none⟩ (.int .i64 z2)).setCell ⟨b, 3, none⟩ (.int .i64 z3)).setCell ⟨b, 4, none⟩ (.int .i64 z4)).setCell ⟨b, 5, none⟩ (.int .i64 z5)).setCell ⟨b, 6, none⟩ (.int .i64 z6)).setCell ⟨b, 7, none⟩ (.int .i64 z7)).setCell ⟨b, 8, none⟩ (.int .i64 z8)).setCell ⟨b, 9, none⟩ (.int .i64 z9)).setCell ⟨b, 10, none⟩ (.int .i64 z10)).setCell ⟨b, 11, none⟩ (.int .i64 z11)).setCell ⟨b, 12, none⟩ (.int .i64 z12)).setCell ⟨b, 13, none⟩ (.slice A L.length cap)) := (Below.setB (Below.setB (Below.setB (Below.setB (Below.setB (Below.setB (Below.setB (Below.setB (Below.setB (Below.setB (Below.setB (Below.setB (Below.setB (Below.setB hB1 (q := ⟨b, 0, none⟩) (Nat.le_refl _) (.int .i64 z0)) (q := ⟨b, 1, none⟩) (Nat.le_refl _) (.int .i64 z1)) (q := ⟨b, 2, none⟩) (Nat.le_refl _) (.int .i64 z2)) (q := ⟨b, 3, none⟩) (Nat.le_refl _) (.int .i64 z3)) (q := ⟨b, 4, none⟩) (Nat.le_refl _) (.int .i64 z4)) (q := ⟨b, 5, none⟩) (Nat.le_refl _) (.int .i64 z5)) (q := ⟨b, 6, none⟩) (Nat.le_refl _) (.int .i64 z6)) (q := ⟨b, 7, none⟩) (Nat.le_refl _) (.int .i64 z7)) (q := ⟨b, 8, none⟩) (Nat.le_refl _) (.int .i64 z8)) (q := ⟨b, 9, none⟩) (Nat.le_refl _) (.int .i64 z9)) (q := ⟨b, 10, none⟩) (Nat.le_refl _) (.int .i64 z10)) (q := ⟨b, 11, none⟩) (Nat.le_refl _) (.int .i64 z11)) (q := ⟨b, 12, none⟩) (Nat.le_refl _) (.int .i64 z12)) (q := ⟨b, 13, none⟩) (Nat.le_refl _) (.slice A L.length cap))
      skip
      go_simp
      refine hK.out _ _ (by (try dsimp only); exact hKeep) (fun hHeld => ?_)
      clear hK K hKeep
      try simp only [Act.put, List.setIfInBounds_toArray, List.set_cons_zero, List.set_cons_succ]
      refine wpAnyH_done (by kernel_rfl) ?_ _
      go_wp2_with fail
      go_meet
      case rel => exact ⟨by rw [HMB.out], hcb2, hHeld⟩
  obtain ⟨rfl, hcbc, hBc⟩ := hcut
  clear HSH HCB0 HBW0 HBLE HN0 HNC
  -- both Decodes
  obtain ⟨D, hD⟩ : ∃ D, decC LB = D := ⟨_, rfl⟩
  obtain ⟨ok, hok⟩ : ∃ ok, okD (decC LB) = ok := ⟨_, rfl⟩
  have hok2 : okE (decC LB) = ok := by rw [okE_okD]; exact hok
  have HD1 := Lib.hid (fun V (hV : Below b w V) => decode34 a0 c0 LB V (by omega) HLO.out (HSB.out V hV))
  have HD2 := Lib.hid (fun V (hV : Below b w V) => rdecode34 a0 c0 LB V (by omega) HLBC.out (by have := HCC.out; unfold maxLen; omega) HLO.out (HSB.out V hV))
  rw [hok] at HD1
  rw [hok2] at HD2
  have hlen := decC_len LB
  have hin := decC_in LB
  have HENB : Hid (ok = true → packL (encC (decC LB).z (decC LB).nums) = LB) := Lib.hid fun h => by
    have h1 := hok
    rw [h] at h1
    unfold okD at h1
    rw [Bool.and_eq_true, decide_eq_true_eq] at h1
    have he : (decC LB).s.err = 0 := by
      have h2 := h1.1
      unfold endF at h2
      split at h2
      · rename_i h3; exact absurd h2 h3
      · rename_i h3; simpa using h3
    have hB : (decC LB).s.B = [] := by
      have h2 := h1.1
      unfold endF at h2
      rw [if_neg (by simp [he])] at h2
      split at h2
      · assumption
      · cases h2
    exact enc_dec HLO.out he hB
  have HOKZ : Hid (ok = true → okZ (decC LB).z (decC LB).nums.length = true) := Lib.hid fun h => by
    have h1 := hok
    rw [h] at h1
    unfold okD at h1
    rw [Bool.and_eq_true] at h1
    exact h1.2
  rw [hD] at HD1 HD2 hlen hin HENB HOKZ
  obtain ⟨er, her⟩ : ∃ er : Int, (if ok = true then 0 else 3) = er := ⟨_, rfl⟩
  obtain ⟨NM, hNM⟩ : ∃ NM, (if ok = true then D.nums else []) = NM := ⟨_, rfl⟩
  obtain ⟨y0, y1, y2, y3, y4, y5, y6, y7, y8, y9, y10, y11, y12, hYS⟩ : ∃ y0 y1 y2 y3 y4 y5 y6 y7 y8 y9 y10 y11 y12, (if ok = true then D.z else List.replicate 13 0) = [y0, y1, y2, y3, y4, y5, y6, y7, y8, y9, y10, y11, y12] := by
    cases ok with
    | true =>
      rw [if_pos rfl]
      match D.z, hlen with
      | [y0, y1, y2, y3, y4, y5, y6, y7, y8, y9, y10, y11, y12], _ => exact ⟨_, _, _, _, _, _, _, _, _, _, _, _, _, rfl⟩
    | false => exact ⟨0, 0, 0, 0, 0, 0, 0, 0, 0, 0, 0, 0, 0, rfl⟩
  have HDS : Hid (∀ W V e, DRes34 W V e ok D.z D.nums → ∃ (A : Option Addr) (c : Nat), e = .returned (.tuple #[.agg #[.int .i64 y0, .int .i64 y1, .int .i64 y2, .int .i64 y3, .int .i64 y4, .int .i64 y5, .int .i64 y6, .int .i64 y7, .int .i64 y8, .int .i64 y9, .int .i64 y10, .int .i64 y11, .int .i64 y12, .slice A NM.length c], .int .i64 er]) ∧ Sl V A (ints .i64 NM)) := Lib.hid fun W V e h => by
    obtain ⟨x0, x1, x2, x3, x4, x5, x6, x7, x8, x9, x10, x11, x12, A, c, h1, h2, h3⟩ := dres_sl h hlen
    rw [hYS] at h1
    rw [hNM] at h2 h3
    rw [her] at h2
    simp only [List.cons.injEq, and_true] at h1
    obtain ⟨rfl, rfl, rfl, rfl, rfl, rfl, rfl, rfl, rfl, rfl, rfl, rfl, rfl⟩ := h1
    exact ⟨A, c, h2, h3⟩
  have HOY : Hid (okZ [y0, y1, y2, y3, y4, y5, y6, y7, y8, y9, y10, y11, y12] NM.length = ok) := Lib.hid (by
    rw [← hYS, ← hNM]
    cases hov : ok with
    | true => rw [if_pos rfl, if_pos rfl]; exact HOKZ.out hov
    | false => exact ok_zero)
  have HNMl : Hid (NM.length ≤ 1000) := Lib.hid (by
    rw [← hNM]
    cases hov : ok with
    | true =>
      rw [if_pos rfl]
      have h1 := HOKZ.out hov
      simp only [okZ, Bool.and_eq_true, decide_eq_true_eq] at h1
      have := h1.1.1.1.2.2.2.2
      omega
    | false => simp)
  have HYin : Hid (∀ i, In64p (([y0, y1, y2, y3, y4, y5, y6, y7, y8, y9, y10, y11, y12] : List Int).getD i 0)) := Lib.hid (by
    rw [← hYS]
    cases ok with
    | true => rw [if_pos rfl]; exact hin.1
    | false => exact repl_in)
  have HNin : Hid (∀ x ∈ NM, In64p x) := Lib.hid (by
    rw [← hNM]
    cases ok with
    | true => rw [if_pos rfl]; exact hin.2
    | false => exact fun x hx => by cases hx)
  have HPB : Hid (ok = true → packL (encC [y0, y1, y2, y3, y4, y5, y6, y7, y8, y9, y10, y11, y12] NM) = LB) := Lib.hid fun h => by
    rw [← hYS, ← hNM, h, if_pos rfl, if_pos rfl]
    exact HENB.out h
  have hero : (er == 0) = ok := by rw [← her]; cases ok <;> rfl
  have hern : (er != er) = false := by simp
  clear hok hok2 hlen hin HENB HOKZ hNM hYS her hD HLBC HCC
  have HCBC := Lib.hid hcbc
  have HBC := Lib.hid hBc
  have HbL := Lib.hid (Nat.le_of_lt hcbc.lt)
  clear hcbc hBc
  go_wp2_with fail
  refine (HD1.out _ HBC.out).mono ?_
  rintro e v2 ⟨hr, hb2⟩
  obtain ⟨A2, c2, rfl, hs2⟩ := HDS.out _ _ _ hr
  have hal := since_alloc (Below.refl _ v2) (.cells #[.int .i64 y0, .int .i64 y1, .int .i64 y2, .int .i64 y3, .int .i64 y4, .int .i64 y5, .int .i64 y6, .int .i64 y7, .int .i64 y8, .int .i64 y9, .int .i64 y10, .int .i64 y11, .int .i64 y12, .slice A2 NM.length c2] 26)
  have hB2 := HBC.out.trans (hb2.mono HbL.out)
  have hbl2 : b ≤ v2.heap.size := Nat.le_trans HbL.out hb2.size
  have HB3 := Lib.hid (hB2.trans (hal.mono hbl2))
  have HCB3 := Lib.hid ((HCBC.out.below hb2).below hal)
  have HS3 := Lib.hid (hs2.below hal)
  have HX3 := Lib.hid (heap_alloc_new v2 (.cells #[.int .i64 y0, .int .i64 y1, .int .i64 y2, .int .i64 y3, .int .i64 y4, .int .i64 y5, .int .i64 y6, .int .i64 y7, .int .i64 y8, .int .i64 y9, .int .i64 y10, .int .i64 y11, .int .i64 y12, .slice A2 NM.length c2] 26))
  have HBL3 : Hid (b ≤ (v2.alloc (.cells #[.int .i64 y0, .int .i64 y1, .int .i64 y2, .int .i64 y3, .int .i64 y4, .int .i64 y5, .int .i64 y6, .int .i64 y7, .int .i64 y8, .int .i64 y9, .int .i64 y10, .int .i64 y11, .int .i64 y12, .slice A2 NM.length c2] 26)).heap.size) := Lib.hid (Nat.le_trans hbl2 hal.size)
  clear hr hb2 hs2 hal hB2 hbl2 HD1 HCBC HBC HbL
  go_wp2_with fail
  refine (HD2.out _ HB3.out).mono ?_
  rintro e v3 ⟨hr, hb3⟩
  obtain ⟨A3, c3, rfl, hs3⟩ := HDS.out _ _ _ hr
  have hal := since_alloc (Below.refl _ v3) (.cells #[.int .i64 y0, .int .i64 y1, .int .i64 y2, .int .i64 y3, .int .i64 y4, .int .i64 y5, .int .i64 y6, .int .i64 y7, .int .i64 y8, .int .i64 y9, .int .i64 y10, .int .i64 y11, .int .i64 y12, .slice A3 NM.length c3] 26)
  have hb33 := hb3.trans (hal.mono hb3.size)
  have HSA := Lib.hid (rsame34 y0 y1 y2 y3 y4 y5 y6 y7 y8 y9 y10 y11 y12 A2 A3 c2 c3 NM (v3.alloc (.cells #[.int .i64 y0, .int .i64 y1, .int .i64 y2, .int .i64 y3, .int .i64 y4, .int .i64 y5, .int .i64 y6, .int .i64 y7, .int .i64 y8, .int .i64 y9, .int .i64 y10, .int .i64 y11, .int .i64 y12, .slice A3 NM.length c3] 26)) HNMl.out (HS3.out.below hb33) (hs3.below hal))
  have HB4 := Lib.hid (HB3.out.trans (hb33.mono HBL3.out))
  have HCB4 := Lib.hid (HCB3.out.below hb33)
  have HS4 := Lib.hid (HS3.out.below hb33)
  have HX4 := Lib.hid ((hb33.block v2.heap.size (Array.getElem?_eq_some_iff.1 HX3.out).1).trans HX3.out)
  have HBL4 : Hid (b ≤ (v3.alloc (.cells #[.int .i64 y0, .int .i64 y1, .int .i64 y2, .int .i64 y3, .int .i64 y4, .int .i64 y5, .int .i64 y6, .int .i64 y7, .int .i64 y8, .int .i64 y9, .int .i64 y10, .int .i64 y11, .int .i64 y12, .slice A3 NM.length c3] 26)).heap.size) := Lib.hid (Nat.le_trans HBL3.out hb33.size)
  obtain ⟨xb, hxb⟩ : ∃ xb, v2.heap.size = xb := ⟨_, rfl⟩
  rw [hxb] at HX4
  have HXB := Lib.hid hxb
  have hx3 := (hb3.block v2.heap.size (Array.getElem?_eq_some_iff.1 HX3.out).1).trans HX3.out
  rw [hxb] at hx3
  have kx0 : v3.cell? ⟨xb, 0, none⟩ = some (.int .i64 y0) := by rw [cell_of_row _ xb 0 _ _ (0, 0) hx3]; rfl
  have kx1 : v3.cell? ⟨xb, 1, none⟩ = some (.int .i64 y1) := by rw [cell_of_row _ xb 1 _ _ (0, 0) hx3]; rfl
  have kx2 : v3.cell? ⟨xb, 2, none⟩ = some (.int .i64 y2) := by rw [cell_of_row _ xb 2 _ _ (0, 0) hx3]; rfl
  have kx3 : v3.cell? ⟨xb, 3, none⟩ = some (.int .i64 y3) := by rw [cell_of_row _ xb 3 _ _ (0, 0) hx3]; rfl
  have kx4 : v3.cell? ⟨xb, 4, none⟩ = some (.int .i64 y4) := by rw [cell_of_row _ xb 4 _ _ (0, 0) hx3]; rfl
  have kx5 : v3.cell? ⟨xb, 5, none⟩ = some (.int .i64 y5) := by rw [cell_of_row _ xb 5 _ _ (0, 0) hx3]; rfl
  have kx6 : v3.cell? ⟨xb, 6, none⟩ = some (.int .i64 y6) := by rw [cell_of_row _ xb 6 _ _ (0, 0) hx3]; rfl
  have kx7 : v3.cell? ⟨xb, 7, none⟩ = some (.int .i64 y7) := by rw [cell_of_row _ xb 7 _ _ (0, 0) hx3]; rfl
  have kx8 : v3.cell? ⟨xb, 8, none⟩ = some (.int .i64 y8) := by rw [cell_of_row _ xb 8 _ _ (0, 0) hx3]; rfl
  have kx9 : v3.cell? ⟨xb, 9, none⟩ = some (.int .i64 y9) := by rw [cell_of_row _ xb 9 _ _ (0, 0) hx3]; rfl
  have kx10 : v3.cell? ⟨xb, 10, none⟩ = some (.int .i64 y10) := by rw [cell_of_row _ xb 10 _ _ (0, 0) hx3]; rfl
  have kx11 : v3.cell? ⟨xb, 11, none⟩ = some (.int .i64 y11) := by rw [cell_of_row _ xb 11 _ _ (0, 0) hx3]; rfl
  have kx12 : v3.cell? ⟨xb, 12, none⟩ = some (.int .i64 y12) := by rw [cell_of_row _ xb 12 _ _ (0, 0) hx3]; rfl
  have kx13 : v3.cell? ⟨xb, 13, none⟩ = some (.slice A2 NM.length c2) := by rw [cell_of_row _ xb 13 _ _ (0, 0) hx3]; rfl
  have hxl := (Array.getElem?_eq_some_iff.1 hx3).1
  have HXL := Lib.hid (Array.getElem?_eq_some_iff.1 HX4.out).1
  clear hx3 hr hb3 hs3 hal hb33 HX3 HS3 HCB3 HB3 HBL3 HD2 HDS hxb
  rw [HXB.out]
  go_wp2_with fail
  refine HSA.out.mono ?_
  rintro e v5 ⟨rfl, hb5⟩
  have HB5 := Lib.hid (HB4.out.trans (hb5.mono HBL4.out))
  have HCB5 := Lib.hid (HCB4.out.below hb5)
  have HS5 := Lib.hid (HS4.out.below hb5)
  have HX5 := Lib.hid ((hb5.block xb HXL.out).trans HX4.out)
  have HBL5 : Hid (b ≤ v5.heap.size) := Lib.hid (Nat.le_trans HBL4.out hb5.size)
  have HEN := Lib.hid (encodeE y0 y1 y2 y3 y4 y5 y6 y7 y8 y9 y10 y11 y12 A2 c2 NM v5 HNMl.out HYin.out HNin.out HS5.out)
  rw [HOY.out] at HEN
  have hx5 := HX5.out
  have kx0 : v5.cell? ⟨xb, 0, none⟩ = some (.int .i64 y0) := by rw [cell_of_row _ xb 0 _ _ (0, 0) hx5]; rfl
  have kx1 : v5.cell? ⟨xb, 1, none⟩ = some (.int .i64 y1) := by rw [cell_of_row _ xb 1 _ _ (0, 0) hx5]; rfl
  have kx2 : v5.cell? ⟨xb, 2, none⟩ = some (.int .i64 y2) := by rw [cell_of_row _ xb 2 _ _ (0, 0) hx5]; rfl
  have kx3 : v5.cell? ⟨xb, 3, none⟩ = some (.int .i64 y3) := by rw [cell_of_row _ xb 3 _ _ (0, 0) hx5]; rfl
  have kx4 : v5.cell? ⟨xb, 4, none⟩ = some (.int .i64 y4) := by rw [cell_of_row _ xb 4 _ _ (0, 0) hx5]; rfl
  have kx5 : v5.cell? ⟨xb, 5, none⟩ = some (.int .i64 y5) := by rw [cell_of_row _ xb 5 _ _ (0, 0) hx5]; rfl
  have kx6 : v5.cell? ⟨xb, 6, none⟩ = some (.int .i64 y6) := by rw [cell_of_row _ xb 6 _ _ (0, 0) hx5]; rfl
  have kx7 : v5.cell? ⟨xb, 7, none⟩ = some (.int .i64 y7) := by rw [cell_of_row _ xb 7 _ _ (0, 0) hx5]; rfl
  have kx8 : v5.cell? ⟨xb, 8, none⟩ = some (.int .i64 y8) := by rw [cell_of_row _ xb 8 _ _ (0, 0) hx5]; rfl
  have kx9 : v5.cell? ⟨xb, 9, none⟩ = some (.int .i64 y9) := by rw [cell_of_row _ xb 9 _ _ (0, 0) hx5]; rfl
  have kx10 : v5.cell? ⟨xb, 10, none⟩ = some (.int .i64 y10) := by rw [cell_of_row _ xb 10 _ _ (0, 0) hx5]; rfl
  have kx11 : v5.cell? ⟨xb, 11, none⟩ = some (.int .i64 y11) := by rw [cell_of_row _ xb 11 _ _ (0, 0) hx5]; rfl
  have kx12 : v5.cell? ⟨xb, 12, none⟩ = some (.int .i64 y12) := by rw [cell_of_row _ xb 12 _ _ (0, 0) hx5]; rfl
  have kx13 : v5.cell? ⟨xb, 13, none⟩ = some (.slice A2 NM.length c2) := by rw [cell_of_row _ xb 13 _ _ (0, 0) hx5]; rfl
  have hxl := (Array.getElem?_eq_some_iff.1 hx5).1
  clear hx5 hb5 HXL HSA HB4 HCB4 HS4 HX4 HBL4 HXB
  go_wp2_with fail
  refine HEN.out.mono ?_
  rintro e v6 ⟨hr, hb6⟩
  obtain ⟨A6, c6, rfl, hs6⟩ := eres_sl hr
  have HB6 := Lib.hid (HB5.out.trans (hb6.mono HBL5.out))
  have HCB6 := Lib.hid (HCB5.out.below hb6)
  have HBL6 : Hid (b ≤ v6.heap.size) := Lib.hid (Nat.le_trans HBL5.out hb6.size)
  have HOKS := Lib.hid (fun (h : ok = true) => by
    rw [if_pos h, HPB.out h] at hs6
    exact hs6)
  obtain ⟨BX, hBX⟩ : ∃ BX, (if ok = true then packL (encC [y0, y1, y2, y3, y4, y5, y6, y7, y8, y9, y10, y11, y12] NM) else []) = BX := ⟨_, rfl⟩
  rw [hBX]
  have HBX : Hid (ok = true → BX = LB) := Lib.hid fun h => by rw [← hBX, if_pos h, HPB.out h]
  obtain ⟨e6, he6⟩ : ∃ e6 : Int, (if ok = true then 0 else 3) = e6 := ⟨_, rfl⟩
  rw [he6]
  have HE6 : Hid (ok = true → (e6 != 0) = false) := Lib.hid fun h => by rw [← he6, if_pos h]; rfl
  clear hr hb6 hs6 hBX he6 HEN HB5 HCB5 HS5 HX5 HBL5 kx0 kx1 kx2 kx3 kx4 kx5 kx6 kx7 kx8 kx9 kx10 kx11 kx12 kx13 hxl HOY HYin HNin HPB
  have HSB6 := Lib.hid (HSB.out _ HB6.out)
  go_upto_region 7 with fail
  go_cut [54] (fun s wx => s = .bool false ∧ Below v6.heap.size v6 wx)
  case first =>
    cases ok with
    | false =>
      go_wp2_with fail
      go_meet
      case rel => exact ⟨rfl, Below.refl _ _⟩
    | true =>
      have g6 := HE6.out rfl
      have hbx := HBX.out rfl
      subst hbx
      have HQ := Lib.hid (same_any A6 a0 c6 c0 BX BX v6 (by unfold maxLen; omega) (by unfold maxLen; omega) (HOKS.out rfl) HSB6.out)
      simp only [decide_true] at HQ
      clear HBX HE6 HOKS
      go_wp2_with fail
      refine HQ.out.mono ?_
      rintro e v7 ⟨rfl, n7, rfl⟩
      go_wp2_with fail
      go_meet
      case rel => exact ⟨rfl, below_drewN (Below.refl _ _) _⟩
  obtain ⟨rfl, hb7⟩ := hcut
  have HB7 := Lib.hid (HB6.out.trans (hb7.mono HBL6.out))
  have hcb7 := HCB6.out.below hb7
  have HBL7 : Hid (b ≤ wc.heap.size) := Lib.hid (Nat.le_trans HBL6.out hb7.size)
  have HCB7 := Lib.hid hcb7
  have HEC := Lib.hid (encodeE z0 z1 z2 z3 z4 z5 z6 z7 z8 z9 z10 z11 z12 A cap L wc (by omega) H6Z.out H6L.out (HSN.out _ HB7.out))
  obtain ⟨R, hR⟩ : ∃ R, okZ [z0, z1, z2, z3, z4, z5, z6, z7, z8, z9, z10, z11, z12] L.length = R := ⟨_, rfl⟩
  rw [hR] at HEC
  have HR := Lib.hid hR
  obtain ⟨m0, fm0⟩ := hcb7.got (o := 0) (by decide)
  obtain ⟨m1, fm1⟩ := hcb7.got (o := 1) (by decide)
  obtain ⟨m2, fm2⟩ := hcb7.got (o := 2) (by decide)
  obtain ⟨m3, fm3⟩ := hcb7.got (o := 3) (by decide)
  obtain ⟨m4, fm4⟩ := hcb7.got (o := 4) (by decide)
  obtain ⟨m5, fm5⟩ := hcb7.got (o := 5) (by decide)
  obtain ⟨m6, fm6⟩ := hcb7.got (o := 6) (by decide)
  obtain ⟨m7, fm7⟩ := hcb7.got (o := 7) (by decide)
  obtain ⟨m8, fm8⟩ := hcb7.got (o := 8) (by decide)
  obtain ⟨m9, fm9⟩ := hcb7.got (o := 9) (by decide)
  obtain ⟨m10, fm10⟩ := hcb7.got (o := 10) (by decide)
  obtain ⟨m11, fm11⟩ := hcb7.got (o := 11) (by decide)
  obtain ⟨m12, fm12⟩ := hcb7.got (o := 12) (by decide)
  obtain ⟨mv, fmv⟩ := hcb7.gotV
  have hbm := hcb7.lt
  simp only [List.getD_cons_zero, List.getD_cons_succ] at m0 m1 m2 m3 m4 m5 m6 m7 m8 m9 m10 m11 m12
  clear hcb7 hb7 hR HB6 HCB6 HBL6 HSB6 HBX HE6 HOKS hero hern
  go_wp2_with fail
  refine HEC.out.mono ?_
  rintro e v8 ⟨hr, hb8⟩
  have HB8 := Lib.hid (HB7.out.trans (hb8.mono HBL7.out))
  have HCB8 := Lib.hid (HCB7.out.below hb8)
  have HBL8 : Hid (b ≤ v8.heap.size) := Lib.hid (Nat.le_trans HBL7.out hb8.size)
  clear m0 fm0 m1 fm1 m2 fm2 m3 fm3 m4 fm4 m5 fm5 m6 fm6 m7 fm7 m8 fm8 m9 fm9 m10 fm10 m11 fm11 m12 fm12 mv fmv hbm
  clear hb8 HEC HB7 HCB7 HBL7
  unfold ERes34 at hr
  cases R with
  | false =>
    rw [if_neg (by decide)] at hr
    subst hr
    go_wp2_with fail
    refine (HLV.out _).mono ?_
    rintro e v9 ⟨rfl, hb9⟩
    have hB9 := HB8.out.trans (hb9.mono HBL8.out)
    go_wp2_with fail
    go_ret
    exact ⟨rfl, hB9⟩
  | true =>
    rw [if_pos rfl] at hr
    obtain ⟨A8, c8, rfl, own8⟩ := hr
    have hdec := dec_encE z0 z1 z2 z3 z4 z5 z6 z7 z8 z9 z10 z11 z12 L H6L.out (H6Z.out 0) (H6Z.out 1) (H6Z.out 2) (H6Z.out 3) (H6Z.out 4) (H6Z.out 5) (H6Z.out 6) (H6Z.out 7) (H6Z.out 8) (H6Z.out 9) (H6Z.out 10) (H6Z.out 11) (H6Z.out 12) (by rw [← ok_isE]; exact HR.out)
    have hokc : okD (decC (packL (encC [z0, z1, z2, z3, z4, z5, z6, z7, z8, z9, z10, z11, z12] L))) = true := by
      rw [hdec]
      unfold okD
      rw [Bool.and_eq_true]
      exact ⟨decide_eq_true (show endF (⟨[], 0⟩ : Rs) = 0 by decide), HR.out⟩
    have hl32 : L.length ≤ 32 := by
      have h1 := HR.out
      simp only [okZ, Bool.and_eq_true, decide_eq_true_eq] at h1
      exact h1.1.1.1.2.2.2.2
    have hpl : (packL (encC [z0, z1, z2, z3, z4, z5, z6, z7, z8, z9, z10, z11, z12] L)).length ≤ 10000 := by
      have h1 := packL_le (l := encC [z0, z1, z2, z3, z4, z5, z6, z7, z8, z9, z10, z11, z12] L) (fun x hx => by
        unfold encC at hx
        rcases List.mem_cons.1 hx with rfl | hx
        · exact H6Z.out 0
        · rcases List.mem_cons.1 hx with rfl | hx
          · exact H6Z.out 1
          · exact flat_in H6Z.out H6L.out (by omega) _ x hx)
      have h2 := flat_len [z0, z1, z2, z3, z4, z5, z6, z7, z8, z9, z10, z11, z12] L (fldL (([z0, z1, z2, z3, z4, z5, z6, z7, z8, z9, z10, z11, z12] : List Int).getD 0 0))
      have h3 := fldL_five (([z0, z1, z2, z3, z4, z5, z6, z7, z8, z9, z10, z11, z12] : List Int).getD 0 0)
      have h4 : (L.length + 2) * (fldL (([z0, z1, z2, z3, z4, z5, z6, z7, z8, z9, z10, z11, z12] : List Int).getD 0 0)).length ≤ 42 * 5 := Nat.mul_le_mul (by omega) h3
      unfold encC at h1 ⊢
      rw [List.length_cons, List.length_cons] at h1
      omega
    have HDD := Lib.hid (decode34 A8 c8 (packL (encC [z0, z1, z2, z3, z4, z5, z6, z7, z8, z9, z10, z11, z12] L)) v8 hpl (packL_byte _) (Sl.of_own own8))
    rw [hokc, hdec] at HDD
    generalize (packL (encC [z0, z1, z2, z3, z4, z5, z6, z7, z8, z9, z10, z11, z12] L)).length = pl at *
    clear hdec hokc hpl own8 hl32 HR
    go_wp2_with fail
    refine HDD.out.mono ?_
    rintro e v9 ⟨hr, hb9⟩
    unfold DRes34 at hr
    rw [if_pos rfl] at hr
    obtain ⟨A9, c9, rfl, own9⟩ := hr
    have hcx : cbox [z0, z1, z2, z3, z4, z5, z6, z7, z8, z9, z10, z11, z12] (.slice A9 L.length c9) = #[.int .i64 z0, .int .i64 z1, .int .i64 z2, .int .i64 z3, .int .i64 z4, .int .i64 z5, .int .i64 z6, .int .i64 z7, .int .i64 z8, .int .i64 z9, .int .i64 z10, .int .i64 z11, .int .i64 z12, .slice A9 L.length c9] := rfl
    simp only [hcx]
    have hal := since_alloc (Below.refl _ v9) (.cells #[.int .i64 z0, .int .i64 z1, .int .i64 z2, .int .i64 z3, .int .i64 z4, .int .i64 z5, .int .i64 z6, .int .i64 z7, .int .i64 z8, .int .i64 z9, .int .i64 z10, .int .i64 z11, .int .i64 z12, .slice A9 L.length c9] 26)
    have hb99 := hb9.trans (hal.mono hb9.size)
    have HB9 := Lib.hid (HB8.out.trans (hb99.mono HBL8.out))
    have hcb9 := HCB8.out.below hb99
    have HBL9 : Hid (b ≤ (v9.alloc (.cells #[.int .i64 z0, .int .i64 z1, .int .i64 z2, .int .i64 z3, .int .i64 z4, .int .i64 z5, .int .i64 z6, .int .i64 z7, .int .i64 z8, .int .i64 z9, .int .i64 z10, .int .i64 z11, .int .i64 z12, .slice A9 L.length c9] 26)).heap.size) := Lib.hid (Nat.le_trans HBL8.out hb99.size)
    have HSF := Lib.hid (rsame34 z0 z1 z2 z3 z4 z5 z6 z7 z8 z9 z10 z11 z12 A9 A c9 cap L (v9.alloc (.cells #[.int .i64 z0, .int .i64 z1, .int .i64 z2, .int .i64 z3, .int .i64 z4, .int .i64 z5, .int .i64 z6, .int .i64 z7, .int .i64 z8, .int .i64 z9, .int .i64 z10, .int .i64 z11, .int .i64 z12, .slice A9 L.length c9] 26)) (by omega) ((Sl.of_own own9).below hal) (HSN.out _ HB9.out))
    obtain ⟨m0, fm0⟩ := hcb9.got (o := 0) (by decide)
    obtain ⟨m1, fm1⟩ := hcb9.got (o := 1) (by decide)
    obtain ⟨m2, fm2⟩ := hcb9.got (o := 2) (by decide)
    obtain ⟨m3, fm3⟩ := hcb9.got (o := 3) (by decide)
    obtain ⟨m4, fm4⟩ := hcb9.got (o := 4) (by decide)
    obtain ⟨m5, fm5⟩ := hcb9.got (o := 5) (by decide)
    obtain ⟨m6, fm6⟩ := hcb9.got (o := 6) (by decide)
    obtain ⟨m7, fm7⟩ := hcb9.got (o := 7) (by decide)
    obtain ⟨m8, fm8⟩ := hcb9.got (o := 8) (by decide)
    obtain ⟨m9, fm9⟩ := hcb9.got (o := 9) (by decide)
    obtain ⟨m10, fm10⟩ := hcb9.got (o := 10) (by decide)
    obtain ⟨m11, fm11⟩ := hcb9.got (o := 11) (by decide)
    obtain ⟨m12, fm12⟩ := hcb9.got (o := 12) (by decide)
    obtain ⟨mv, fmv⟩ := hcb9.gotV
    have hbm := hcb9.lt
    simp only [List.getD_cons_zero, List.getD_cons_succ] at m0 m1 m2 m3 m4 m5 m6 m7 m8 m9 m10 m11 m12
    clear hcx hal hb99 hb9 hcb9 own9 HDD HB8 HCB8 HBL8
    go_wp2_with fail
    refine HSF.out.mono ?_
    rintro e v10 ⟨rfl, hb10⟩
    have HB10 := Lib.hid (HB9.out.trans (hb10.mono HBL9.out))
    have HBL10 : Hid (b ≤ v10.heap.size) := Lib.hid (Nat.le_trans HBL9.out hb10.size)
    clear m0 fm0 m1 fm1 m2 fm2 m3 fm3 m4 fm4 m5 fm5 m6 fm6 m7 fm7 m8 fm8 m9 fm9 m10 fm10 m11 fm11 m12 fm12 mv fmv hbm
    clear hb10 HB9 HBL9 HSF
    go_wp2_with fail
    refine (HLV.out _).mono ?_
    rintro e v11 ⟨rfl, hb11⟩
    have hB11 := HB10.out.trans (hb11.mono HBL10.out)
    go_wp2_with fail
    go_ret
    exact ⟨rfl, hB11⟩
end Go.Proofs.Ytpmnjojednbnpaa
