/-
  Layer 34: what came in, Short, lives, CmdEncodes (laid by gen_cmd10.py).
-/
import Derived.Test.YtpmnjojednbnpaaCmd9
import Derived.Test.YtpmnjojednbnpaaCmd7
namespace Go.Proofs.Ytpmnjojednbnpaa
open Go.ChangeShapes Go.WideShapes Go.ChangeAt Go.RowKit
set_option linter.unusedVariables false
set_option linter.unusedSimpArgs false

theorem rd_cmd {w : World} {a : Array Value} (h : Go.Proofs.Ytpmnjojednbnpaa.Rd w (.cat (.int .i64) (.cat (.int .i64) (.cat (.int .i64) (.cat (.cat (.int .i64) (.cat (.int .i64) .nil)) (.cat (.cat (.int .i64) (.cat (.int .i64) .nil)) (.cat (.int .i64) (.cat (.int .i64) (.cat (.int .i64) (.cat (.int .i64) (.cat (.int .i64) (.cat (.int .i64) (.cat (.sl (.int .i64)) .nil)))))))))))) a.toList) : ∃ (z0 z1 z2 z3 z4 z5 z6 z7 z8 z9 z10 z11 z12 : Int) (A : Option Addr) (cap : Nat) (nums : List Int), a = #[.int .i64 z0, .int .i64 z1, .int .i64 z2, .int .i64 z3, .int .i64 z4, .int .i64 z5, .int .i64 z6, .int .i64 z7, .int .i64 z8, .int .i64 z9, .int .i64 z10, .int .i64 z11, .int .i64 z12, .slice A nums.length cap] ∧ (∀ i, In64p (([z0, z1, z2, z3, z4, z5, z6, z7, z8, z9, z10, z11, z12] : List Int).getD i 0)) ∧ nums.length ≤ cap ∧ cap ≤ maxLen ∧ Sl w A (ints .i64 nums) ∧ ∀ x ∈ nums, In64p x := by
  obtain ⟨r, hr⟩ : ∃ r, a.toList = r := ⟨_, rfl⟩
  rw [hr] at h
  have ha : a = r.toArray := by rw [← hr]
  obtain ⟨p0, q0, rfl, h0, p1, q1, rfl, h1, p2, q2, rfl, h2, p3, q3, rfl, ⟨p4, q4, rfl, h4, p5, q5, rfl, h5, rfl⟩, p6, q6, rfl, ⟨p7, q7, rfl, h7, p8, q8, rfl, h8, rfl⟩, p9, q9, rfl, h9, pa, qa, rfl, h10, pb, qb, rfl, h11, pc, qc, rfl, h12, pd, qd, rfl, h13, pe, qe, rfl, h14, pf, qf, rfl, hsl, rfl⟩ := h
  obtain ⟨z0, rfl, i0⟩ := rd_int h0
  obtain ⟨z1, rfl, i1⟩ := rd_int h1
  obtain ⟨z2, rfl, i2⟩ := rd_int h2
  obtain ⟨z3, rfl, i3⟩ := rd_int h4
  obtain ⟨z4, rfl, i4⟩ := rd_int h5
  obtain ⟨z5, rfl, i5⟩ := rd_int h7
  obtain ⟨z6, rfl, i6⟩ := rd_int h8
  obtain ⟨z7, rfl, i7⟩ := rd_int h9
  obtain ⟨z8, rfl, i8⟩ := rd_int h10
  obtain ⟨z9, rfl, i9⟩ := rd_int h11
  obtain ⟨z10, rfl, i10⟩ := rd_int h12
  obtain ⟨z11, rfl, i11⟩ := rd_int h13
  obtain ⟨z12, rfl, i12⟩ := rd_int h14
  obtain ⟨A', n', c', e2⟩ : ∃ A' n' c', pf = [.slice A' n' c'] := by
    obtain ⟨A', n', c', rows, e2, _⟩ := hsl
    exact ⟨A', n', c', e2⟩
  subst e2
  obtain ⟨l, g1, g2, g3, g4, g5⟩ := rd_rowsP (f := fun n : Int => [Value.int .i64 n]) (fun r => rd_int) hsl
  subst g1
  rw [rc_int] at g4
  refine ⟨z0, z1, z2, z3, z4, z5, z6, z7, z8, z9, z10, z11, z12, A', c', l, ha, fun i => ?_, g2, g3, g4, g5⟩
  match i with
  | 0 => exact i0
  | 1 => exact i1
  | 2 => exact i2
  | 3 => exact i3
  | 4 => exact i4
  | 5 => exact i5
  | 6 => exact i6
  | 7 => exact i7
  | 8 => exact i8
  | 9 => exact i9
  | 10 => exact i10
  | 11 => exact i11
  | 12 => exact i12
  | i + 13 =>
    rw [List.getD_eq_getElem?_getD, List.getElem?_eq_none (by simp)]
    exact ⟨by decide, by decide⟩
set_option maxHeartbeats 4000000 in
set_option maxRecDepth 100000 in
theorem short34 (z0 z1 z2 z3 z4 z5 z6 z7 z8 z9 z10 z11 z12 : Int) (A : Option Addr) (n cap : Nat) (w : World) (hn : n ≤ cap) (hc : cap ≤ maxLen) (hA : 40 < n → A ≠ none) :
    Calls Try.prog 6 #[.agg #[.int .i64 z0, .int .i64 z1, .int .i64 z2, .int .i64 z3, .int .i64 z4, .int .i64 z5, .int .i64 z6, .int .i64 z7, .int .i64 z8, .int .i64 z9, .int .i64 z10, .int .i64 z11, .int .i64 z12, .slice A n cap]] w fun e w' => e = .returned (.agg #[.int .i64 z0, .int .i64 z1, .int .i64 z2, .int .i64 z3, .int .i64 z4, .int .i64 z5, .int .i64 z6, .int .i64 z7, .int .i64 z8, .int .i64 z9, .int .i64 z10, .int .i64 z11, .int .i64 z12, .slice A (min n 40) cap]) ∧ Below w.heap.size w w' := by
  unfold maxLen at hc
  by_cases h40 : 40 < n
  · have e : min n 40 = 40 := by omega
    rw [e]
    have h40i : (40 : Int) < (n : Int) := by omega
    have hci : (40 : Int) ≤ (cap : Int) := by omega
    obtain ⟨a, ha⟩ : ∃ a, A = some a := by
      cases A with
      | none => exact absurd rfl (hA h40)
      | some a => exact ⟨a, rfl⟩
    subst ha
    clear e hA
    go_enter Try.func6, Try.ntmps6
    go_wp2_with fail
    refine bodyPost_ret (v := .agg #[.int .i64 z0, .int .i64 z1, .int .i64 z2, .int .i64 z3, .int .i64 z4, .int .i64 z5, .int .i64 z6, .int .i64 z7, .int .i64 z8, .int .i64 z9, .int .i64 z10, .int .i64 z11, .int .i64 z12, .slice (some a) 40 cap]) ?_ rfl ⟨rfl, since_alloc (since_alloc (Below.refl _ _) _) _⟩
    simp [results, Try.results6, go_sem]
  · have e : min n 40 = n := by omega
    rw [e]
    have h40i : ¬ (40 : Int) < (n : Int) := by omega
    clear e hA h40
    go_enter Try.func6, Try.ntmps6
    go_wp2_with fail
    refine bodyPost_ret (v := .agg #[.int .i64 z0, .int .i64 z1, .int .i64 z2, .int .i64 z3, .int .i64 z4, .int .i64 z5, .int .i64 z6, .int .i64 z7, .int .i64 z8, .int .i64 z9, .int .i64 z10, .int .i64 z11, .int .i64 z12, .slice A (n) cap]) ?_ rfl ⟨rfl, since_alloc (since_alloc (Below.refl _ _) _) _⟩
    simp [results, Try.results6, go_sem]

theorem eres_sl {W : Nat} {w : World} {e : Ending} {ok : Bool} {bs : List Nat} (h : ERes34 W w e ok bs) : ∃ (A : Option Addr) (c : Nat), e = .returned (.tuple #[.slice A (if ok = true then bs else []).length c, .int .i64 (if ok = true then 0 else 3)]) ∧ Sl w A (by8 (if ok = true then bs else [])) := by
  unfold ERes34 at h
  cases ok with
  | true =>
    rw [if_pos rfl] at h
    obtain ⟨A, c, rfl, own⟩ := h
    exact ⟨A, c, rfl, Sl.of_own own⟩
  | false =>
    rw [if_neg (by decide)] at h
    subst h
    exact ⟨none, 0, rfl, Sl.nil⟩
def Z16 : List Int := [16, 0, 0, 0, 0, 0, 0, 0, 0, 0, 0, 0, 0]
theorem enc16 : packL (encC Z16 []) = [32, 0] := by
  have e : encC Z16 [] = [16, 0] := rfl
  rw [e, packL_cons, packL_cons]
  have a : packI 16 = [32] := vb_low (by decide)
  have b : packI 0 = [0] := vb_low (by decide)
  rw [a, b]; rfl
theorem ok16 : okZ Z16 0 = true := by decide
theorem dec16 : decC [32, 0] = ⟨Z16, [], ⟨[], 0⟩⟩ := by
  rw [← enc16]
  exact dec_encE 16 0 0 0 0 0 0 0 0 0 0 0 0 [] (fun x hx => by cases hx) ⟨by decide, by decide⟩ ⟨by decide, by decide⟩ ⟨by decide, by decide⟩ ⟨by decide, by decide⟩ ⟨by decide, by decide⟩ ⟨by decide, by decide⟩ ⟨by decide, by decide⟩ ⟨by decide, by decide⟩ ⟨by decide, by decide⟩ ⟨by decide, by decide⟩ ⟨by decide, by decide⟩ ⟨by decide, by decide⟩ ⟨by decide, by decide⟩ (by decide)
theorem okD16 : okD (decC [32, 0]) = true := by rw [dec16]; decide
set_option maxHeartbeats 8000000 in
set_option maxRecDepth 100000 in
theorem lives34_any (w : World) : Calls Try.prog 14 #[] w fun e w' => e = .returned (.bool true) ∧ Below w.heap.size w w' := by
  have HE := Lib.hid (encodeE 16 0 0 0 0 0 0 0 0 0 0 0 0 none 0 [] w (by decide) (fun i => by
    match i with
    | 0 => exact ⟨by decide, by decide⟩
    | i + 1 =>
      have : ([16, 0, 0, 0, 0, 0, 0, 0, 0, 0, 0, 0, 0] : List Int).getD (i + 1) 0 = 0 := by
        rw [List.getD_cons_succ]
        rcases Nat.lt_or_ge i 12 with h | h
        · have : i = 0 ∨ i = 1 ∨ i = 2 ∨ i = 3 ∨ i = 4 ∨ i = 5 ∨ i = 6 ∨ i = 7 ∨ i = 8 ∨ i = 9 ∨ i = 10 ∨ i = 11 := by omega
          rcases this with rfl | rfl | rfl | rfl | rfl | rfl | rfl | rfl | rfl | rfl | rfl | rfl <;> rfl
        · rw [List.getD_eq_getElem?_getD, List.getElem?_eq_none (by simpa using h)]; rfl
      rw [this]
      exact ⟨by decide, by decide⟩) (fun x hx => by cases hx) Sl.nil)
  have e16 : packL (encC [16, 0, 0, 0, 0, 0, 0, 0, 0, 0, 0, 0, 0] []) = [32, 0] := enc16
  have o16 : okZ [16, 0, 0, 0, 0, 0, 0, 0, 0, 0, 0, 0, 0] ([] : List Int).length = true := ok16
  rw [e16, o16] at HE
  have HD := Lib.hid (fun A cap V (h : Sl V A (by8 [32, 0])) => decode34 A cap [32, 0] V (by decide) (fun x hx => by simp at hx; omega) h)
  rw [okD16, dec16] at HD
  clear e16 o16
  go_enter Try.func14, Try.ntmps14
  go_wp2_with fail
  refine HE.out.mono ?_
  rintro e v1 ⟨hr, hb1⟩
  unfold ERes34 at hr
  rw [if_pos rfl] at hr
  obtain ⟨A1, c1, rfl, own1⟩ := hr
  have hb2 := since_alloc (Below.refl _ v1) (.cells #[.int .u8 32, .int .u8 0] 5)
  have HD2 := Lib.hid (HD.out (some ⟨v1.heap.size, 0, none⟩) 2 (v1.alloc (.cells #[.int .u8 32, .int .u8 0] 5)) (Sl.new_ _ _ _))
  have HB1 := Lib.hid (since_step hb1 hb2)
  have HS1 := Lib.hid ((Sl.of_own own1).below hb2)
  clear hb1 hb2 own1 HE HD
  go_wp2_with fail
  refine HD2.out.mono ?_
  rintro e v2 ⟨hr, hb3⟩
  unfold DRes34 at hr
  rw [if_pos rfl] at hr
  obtain ⟨A2, c2, rfl, own2⟩ := hr
  have hb4 := since_alloc (Below.refl _ v2) (.cells #[.int .i64 16, .int .i64 0, .int .i64 0, .int .i64 0, .int .i64 0, .int .i64 0, .int .i64 0, .int .i64 0, .int .i64 0, .int .i64 0, .int .i64 0, .int .i64 0, .int .i64 0, .slice A2 0 c2] 26)
  have hb5 := since_step hb4 (since_alloc (Below.refl _ (v2.alloc (.cells #[.int .i64 16, .int .i64 0, .int .i64 0, .int .i64 0, .int .i64 0, .int .i64 0, .int .i64 0, .int .i64 0, .int .i64 0, .int .i64 0, .int .i64 0, .int .i64 0, .int .i64 0, .slice A2 0 c2] 26))) (.cells #[.int .u8 32, .int .u8 0] 5))
  have hB5 := since_step HB1.out (since_step hb3 hb5)
  have HQ := Lib.hid (same_any A1 (some ⟨v2.heap.size + 1, 0, none⟩) c1 2 [32, 0] [32, 0] _ (by decide) (by decide) ((HS1.out.below hb3).below hb5) (Sl.new1 _ _ _ _))
  simp only [decide_true] at HQ
  have hcx : cbox Z16 (.slice A2 ([] : List Int).length c2) = #[.int .i64 16, .int .i64 0, .int .i64 0, .int .i64 0, .int .i64 0, .int .i64 0, .int .i64 0, .int .i64 0, .int .i64 0, .int .i64 0, .int .i64 0, .int .i64 0, .int .i64 0, .slice A2 0 c2] := rfl
  simp only [hcx]
  clear hcx own2 hb3 hb4 hb5 HD2
  go_wp2_with fail
  refine HQ.out.mono ?_
  rintro e v5 ⟨rfl, n5, rfl⟩
  go_wp2_with fail
  go_ret
  exact ⟨rfl, below_drewN hB5 _⟩

set_option maxHeartbeats 16000000 in
set_option maxRecDepth 100000 in
theorem walk_CmdEncodes (a0 : Array Value) (a1 : Int) (w : World) (w0 : Go.Proofs.Ytpmnjojednbnpaa.Rd w (.cat (.int .i64) (.cat (.int .i64) (.cat (.int .i64) (.cat (.cat (.int .i64) (.cat (.int .i64) .nil)) (.cat (.cat (.int .i64) (.cat (.int .i64) .nil)) (.cat (.int .i64) (.cat (.int .i64) (.cat (.int .i64) (.cat (.int .i64) (.cat (.int .i64) (.cat (.int .i64) (.cat (.sl (.int .i64)) .nil)))))))))))) a0.toList) (w1 : (Lit.int .i64 a1).wf = true) :
    Calls Try.prog 3 #[.agg a0, .int .i64 a1] w fun e w' => e = .returned (.bool true) ∧ Below w.heap.size w w' := by
  obtain ⟨z0, z1, z2, z3, z4, z5, z6, z7, z8, z9, z10, z11, z12, A, cap, nums, rfl, h6z, hnc, hcm, hsl, h6⟩ := rd_cmd w0
  obtain ⟨L, hL⟩ : ∃ L, nums.take 40 = L := ⟨_, rfl⟩
  have hmin : min nums.length 40 = L.length := by rw [← hL, List.length_take]; omega
  have hL40 : L.length ≤ 40 := by omega
  have h6L : ∀ x ∈ L, In64p x := fun x hx => h6 x (by rw [← hL] at hx; exact List.mem_of_mem_take hx)
  have hslL : Sl w A (ints .i64 L) := by
    have := hsl.take 40
    rw [← hL]
    simpa [ints, List.map_take] using this
  have HSH := Lib.hid (short34 z0 z1 z2 z3 z4 z5 z6 z7 z8 z9 z10 z11 z12 A nums.length cap (w.alloc (.cells #[.int .i64 z0, .int .i64 z1, .int .i64 z2, .int .i64 z3, .int .i64 z4, .int .i64 z5, .int .i64 z6, .int .i64 z7, .int .i64 z8, .int .i64 z9, .int .i64 z10, .int .i64 z11, .int .i64 z12, .slice A nums.length cap] 26)) hnc hcm (fun h => by
    obtain ⟨b, o, e, _⟩ := hsl.int (j := 0) (by omega)
    rw [e]; exact fun h => by cases h))
  rw [hmin] at HSH
  have hCB0 : CB (w.alloc (.cells #[.int .i64 z0, .int .i64 z1, .int .i64 z2, .int .i64 z3, .int .i64 z4, .int .i64 z5, .int .i64 z6, .int .i64 z7, .int .i64 z8, .int .i64 z9, .int .i64 z10, .int .i64 z11, .int .i64 z12, .slice A nums.length cap] 26)) w.heap.size [z0, z1, z2, z3, z4, z5, z6, z7, z8, z9, z10, z11, z12] (.slice A nums.length cap) := ⟨heap_alloc_new w _, rfl⟩
  have hB0 : Below w.heap.size w (w.alloc (.cells #[.int .i64 z0, .int .i64 z1, .int .i64 z2, .int .i64 z3, .int .i64 z4, .int .i64 z5, .int .i64 z6, .int .i64 z7, .int .i64 z8, .int .i64 z9, .int .i64 z10, .int .i64 z11, .int .i64 z12, .slice A nums.length cap] 26)) := since_alloc (Below.refl _ w) _
  obtain ⟨b, hb⟩ : ∃ b, w.heap.size = b := ⟨_, rfl⟩
  have HBW := Lib.hid hb
  have HSN : Hid (∀ V, Below b w V → Sl V A (ints .i64 L)) := Lib.hid fun V hV => hslL.below (by rw [hb]; exact hV)
  rw [hb] at hCB0 hB0 ⊢
  have hlt0 := hCB0.lt
  have HCB0 := Lib.hid hCB0
  have HB0 := Lib.hid hB0
  obtain ⟨R, hR⟩ : ∃ R, okZ [z0, z1, z2, z3, z4, z5, z6, z7, z8, z9, z10, z11, z12] L.length = R := ⟨_, rfl⟩
  have hR2 : isZ [z0, z1, z2, z3, z4, z5, z6, z7, z8, z9, z10, z11, z12] L.length = R := by rw [← ok_isE]; exact hR
  have HEN := Lib.hid (fun V (hV : Below b w V) => encodeE z0 z1 z2 z3 z4 z5 z6 z7 z8 z9 z10 z11 z12 A cap L V (by omega) h6z h6L (HSN.out V hV))
  have HRE := Lib.hid (fun V (hV : Below b w V) => rencode34E z0 z1 z2 z3 z4 z5 z6 z7 z8 z9 z10 z11 z12 A cap L V (by omega) h6z h6L (HSN.out V hV))
  have HCK := Lib.hid (fun V => checkE z0 z1 z2 z3 z4 z5 z6 z7 z8 z9 z10 z11 z12 A L.length cap V (by unfold maxLen; omega))
  have HIS := Lib.hid (fun V => ris34E z0 z1 z2 z3 z4 z5 z6 z7 z8 z9 z10 z11 z12 A L.length cap V (by unfold maxLen; omega))
  have HPL : Hid ((if R = true then packL (encC [z0, z1, z2, z3, z4, z5, z6, z7, z8, z9, z10, z11, z12] L) else []).length ≤ maxLen) := Lib.hid (by
    cases hRv : R with
    | false => simp
    | true =>
      rw [if_pos rfl]
      have h1 := packL_le (l := encC [z0, z1, z2, z3, z4, z5, z6, z7, z8, z9, z10, z11, z12] L) (fun x hx => by
        unfold encC at hx
        rcases List.mem_cons.1 hx with rfl | hx
        · exact h6z 0
        · rcases List.mem_cons.1 hx with rfl | hx
          · exact h6z 1
          · exact flat_in h6z h6L (by omega) _ x hx)
      have h2 := flat_len [z0, z1, z2, z3, z4, z5, z6, z7, z8, z9, z10, z11, z12] L (fldL (([z0, z1, z2, z3, z4, z5, z6, z7, z8, z9, z10, z11, z12] : List Int).getD 0 0))
      have h3 := fldL_five (([z0, z1, z2, z3, z4, z5, z6, z7, z8, z9, z10, z11, z12] : List Int).getD 0 0)
      have h4 : (L.length + 2) * (fldL (([z0, z1, z2, z3, z4, z5, z6, z7, z8, z9, z10, z11, z12] : List Int).getD 0 0)).length ≤ 42 * 5 := Nat.mul_le_mul (by omega) h3
      unfold encC at h1 ⊢
      rw [List.length_cons, List.length_cons] at h1
      unfold maxLen
      omega)
  rw [hR] at HEN HCK
  rw [hR2] at HRE HIS
  obtain ⟨BS, hBS⟩ : ∃ BS, (if R = true then packL (encC [z0, z1, z2, z3, z4, z5, z6, z7, z8, z9, z10, z11, z12] L) else []) = BS := ⟨_, rfl⟩
  obtain ⟨er, her⟩ : ∃ er : Int, (if R = true then 0 else 3) = er := ⟨_, rfl⟩
  have hck : (er == 0) = R := by rw [← her]; cases R <;> rfl
  rw [hBS] at HPL
  rw [her] at HCK
  have HRB : Hid (∀ W V e, ERes34 W V e R (packL (encC [z0, z1, z2, z3, z4, z5, z6, z7, z8, z9, z10, z11, z12] L)) → ∃ (A : Option Addr) (c : Nat), e = .returned (.tuple #[.slice A BS.length c, .int .i64 er]) ∧ Sl V A (by8 BS)) := Lib.hid fun W V e h => by
    rw [← hBS, ← her]
    exact eres_sl h
  have HF1 := Lib.hid (fun V => cfld_any a1 V)
  have HF2 := Lib.hid (fun V => rfld_any a1 V)
  have HLV := Lib.hid (fun V => lives34_any V)
  clear w0 w1 h6z hnc hcm hsl h6 hmin hL hL40 h6L hslL hb hCB0 hB0 hR hR2 hBS her
  go_enter Try.func3, Try.ntmps3
  go_wp2_with fail
  refine HSH.out.mono ?_
  rintro e v1 ⟨rfl, hb1⟩
  have hcb1 := HCB0.out.below hb1
  have hB1 : Below b w v1 := HB0.out.trans (hb1.mono (Nat.le_of_lt hlt0))
  rw [HBW.out]
  generalize w.alloc (.cells #[.int .i64 z0, .int .i64 z1, .int .i64 z2, .int .i64 z3, .int .i64 z4, .int .i64 z5, .int .i64 z6, .int .i64 z7, .int .i64 z8, .int .i64 z9, .int .i64 z10, .int .i64 z11, .int .i64 z12, .slice A nums.length cap] 26) = W1 at *
  clear hb1 HSH HCB0 HB0 hlt0
  have hcb2 : CB ((((((((((((((v1.setCell ⟨b, 0, none⟩ (.int .i64 z0)).setCell ⟨b, 1, none⟩ (.int .i64 z1)).setCell ⟨b, 2, none⟩ (.int .i64 z2)).setCell ⟨b, 3, none⟩ (.int .i64 z3)).setCell ⟨b, 4, none⟩ (.int .i64 z4)).setCell ⟨b, 5, none⟩ (.int .i64 z5)).setCell ⟨b, 6, none⟩ (.int .i64 z6)).setCell ⟨b, 7, none⟩ (.int .i64 z7)).setCell ⟨b, 8, none⟩ (.int .i64 z8)).setCell ⟨b, 9, none⟩ (.int .i64 z9)).setCell ⟨b, 10, none⟩ (.int .i64 z10)).setCell ⟨b, 11, none⟩ (.int .i64 z11)).setCell ⟨b, 12, none⟩ (.int .i64 z12)).setCell ⟨b, 13, none⟩ (.slice A L.length cap)) b [z0, z1, z2, z3, z4, z5, z6, z7, z8, z9, z10, z11, z12] (.slice A L.length cap) := (((((((((((((hcb1.put (o := 0) (by decide) z0).put (o := 1) (by decide) z1).put (o := 2) (by decide) z2).put (o := 3) (by decide) z3).put (o := 4) (by decide) z4).put (o := 5) (by decide) z5).put (o := 6) (by decide) z6).put (o := 7) (by decide) z7).put (o := 8) (by decide) z8).put (o := 9) (by decide) z9).put (o := 10) (by decide) z10).put (o := 11) (by decide) z11).put (o := 12) (by decide) z12).putV (.slice A L.length cap)
  have hB2 : Below b w ((((((((((((((v1.setCell ⟨b, 0, none⟩ (.int .i64 z0)).setCell ⟨b, 1, none⟩ (.int .i64 z1)).setCell ⟨b, 2, none⟩ (.int .i64 z2)).setCell ⟨b, 3, none⟩ (.int .i64 z3)).setCell ⟨b, 4, none⟩ (.int .i64 z4)).setCell ⟨b, 5, none⟩ (.int .i64 z5)).setCell ⟨b, 6, none⟩ (.int .i64 z6)).setCell ⟨b, 7, none⟩ (.int .i64 z7)).setCell ⟨b, 8, none⟩ (.int .i64 z8)).setCell ⟨b, 9, none⟩ (.int .i64 z9)).setCell ⟨b, 10, none⟩ (.int .i64 z10)).setCell ⟨b, 11, none⟩ (.int .i64 z11)).setCell ⟨b, 12, none⟩ (.int .i64 z12)).setCell ⟨b, 13, none⟩ (.slice A L.length cap)) := (Below.setB (Below.setB (Below.setB (Below.setB (Below.setB (Below.setB (Below.setB (Below.setB (Below.setB (Below.setB (Below.setB (Below.setB (Below.setB (Below.setB hB1 (q := ⟨b, 0, none⟩) (Nat.le_refl _) (.int .i64 z0)) (q := ⟨b, 1, none⟩) (Nat.le_refl _) (.int .i64 z1)) (q := ⟨b, 2, none⟩) (Nat.le_refl _) (.int .i64 z2)) (q := ⟨b, 3, none⟩) (Nat.le_refl _) (.int .i64 z3)) (q := ⟨b, 4, none⟩) (Nat.le_refl _) (.int .i64 z4)) (q := ⟨b, 5, none⟩) (Nat.le_refl _) (.int .i64 z5)) (q := ⟨b, 6, none⟩) (Nat.le_refl _) (.int .i64 z6)) (q := ⟨b, 7, none⟩) (Nat.le_refl _) (.int .i64 z7)) (q := ⟨b, 8, none⟩) (Nat.le_refl _) (.int .i64 z8)) (q := ⟨b, 9, none⟩) (Nat.le_refl _) (.int .i64 z9)) (q := ⟨b, 10, none⟩) (Nat.le_refl _) (.int .i64 z10)) (q := ⟨b, 11, none⟩) (Nat.le_refl _) (.int .i64 z11)) (q := ⟨b, 12, none⟩) (Nat.le_refl _) (.int .i64 z12)) (q := ⟨b, 13, none⟩) (Nat.le_refl _) (.slice A L.length cap))
  obtain ⟨k0, fk0⟩ := hcb1.got (o := 0) (by decide)
  obtain ⟨k1, fk1⟩ := hcb1.got (o := 1) (by decide)
  obtain ⟨k2, fk2⟩ := hcb1.got (o := 2) (by decide)
  obtain ⟨k3, fk3⟩ := hcb1.got (o := 3) (by decide)
  obtain ⟨k4, fk4⟩ := hcb1.got (o := 4) (by decide)
  obtain ⟨k5, fk5⟩ := hcb1.got (o := 5) (by decide)
  obtain ⟨k6, fk6⟩ := hcb1.got (o := 6) (by decide)
  obtain ⟨k7, fk7⟩ := hcb1.got (o := 7) (by decide)
  obtain ⟨k8, fk8⟩ := hcb1.got (o := 8) (by decide)
  obtain ⟨k9, fk9⟩ := hcb1.got (o := 9) (by decide)
  obtain ⟨k10, fk10⟩ := hcb1.got (o := 10) (by decide)
  obtain ⟨k11, fk11⟩ := hcb1.got (o := 11) (by decide)
  obtain ⟨k12, fk12⟩ := hcb1.got (o := 12) (by decide)
  obtain ⟨kv, fkv⟩ := hcb1.gotV
  have hbk := hcb1.lt
  simp only [List.getD_cons_zero, List.getD_cons_succ] at k0 k1 k2 k3 k4 k5 k6 k7 k8 k9 k10 k11 k12
  clear hcb1 hB1
  have HCB2 := Lib.hid hcb2
  have HB2 := Lib.hid hB2
  clear hcb2 hB2
  go_upto_region 2 with fail
  clear k0 fk0 k1 fk1 k2 fk2 k3 fk3 k4 fk4 k5 fk5 k6 fk6 k7 fk7 k8 fk8 k9 fk9 k10 fk10 k11 fk11 k12 fk12 kv fkv hbk
  generalize (((((((((((((v1.setCell ⟨b, 0, none⟩ (.int .i64 z0)).setCell ⟨b, 1, none⟩ (.int .i64 z1)).setCell ⟨b, 2, none⟩ (.int .i64 z2)).setCell ⟨b, 3, none⟩ (.int .i64 z3)).setCell ⟨b, 4, none⟩ (.int .i64 z4)).setCell ⟨b, 5, none⟩ (.int .i64 z5)).setCell ⟨b, 6, none⟩ (.int .i64 z6)).setCell ⟨b, 7, none⟩ (.int .i64 z7)).setCell ⟨b, 8, none⟩ (.int .i64 z8)).setCell ⟨b, 9, none⟩ (.int .i64 z9)).setCell ⟨b, 10, none⟩ (.int .i64 z10)).setCell ⟨b, 11, none⟩ (.int .i64 z11)).setCell ⟨b, 12, none⟩ (.int .i64 z12)).setCell ⟨b, 13, none⟩ (.slice A L.length cap) = V2 at *
  have hcb2 := HCB2.out
  obtain ⟨k0, fk0⟩ := hcb2.got (o := 0) (by decide)
  obtain ⟨k1, fk1⟩ := hcb2.got (o := 1) (by decide)
  obtain ⟨k2, fk2⟩ := hcb2.got (o := 2) (by decide)
  obtain ⟨k3, fk3⟩ := hcb2.got (o := 3) (by decide)
  obtain ⟨k4, fk4⟩ := hcb2.got (o := 4) (by decide)
  obtain ⟨k5, fk5⟩ := hcb2.got (o := 5) (by decide)
  obtain ⟨k6, fk6⟩ := hcb2.got (o := 6) (by decide)
  obtain ⟨k7, fk7⟩ := hcb2.got (o := 7) (by decide)
  obtain ⟨k8, fk8⟩ := hcb2.got (o := 8) (by decide)
  obtain ⟨k9, fk9⟩ := hcb2.got (o := 9) (by decide)
  obtain ⟨k10, fk10⟩ := hcb2.got (o := 10) (by decide)
  obtain ⟨k11, fk11⟩ := hcb2.got (o := 11) (by decide)
  obtain ⟨k12, fk12⟩ := hcb2.got (o := 12) (by decide)
  obtain ⟨kv, fkv⟩ := hcb2.gotV
  have hbk := hcb2.lt
  simp only [List.getD_cons_zero, List.getD_cons_succ] at k0 k1 k2 k3 k4 k5 k6 k7 k8 k9 k10 k11 k12
  clear hcb2
  go_wp2_with fail
  refine (HEN.out _ HB2.out).mono ?_
  rintro e v3 ⟨hr, hb3⟩
  obtain ⟨A3, c3, rfl, hs3⟩ := HRB.out _ _ _ hr
  have hcb3 := HCB2.out.below hb3
  have HB3 := Lib.hid (HB2.out.trans (hb3.mono (Nat.le_of_lt HCB2.out.lt)))
  clear k0 fk0 k1 fk1 k2 fk2 k3 fk3 k4 fk4 k5 fk5 k6 fk6 k7 fk7 k8 fk8 k9 fk9 k10 fk10 k11 fk11 k12 fk12 kv fkv hbk
  obtain ⟨k0, fk0⟩ := hcb3.got (o := 0) (by decide)
  obtain ⟨k1, fk1⟩ := hcb3.got (o := 1) (by decide)
  obtain ⟨k2, fk2⟩ := hcb3.got (o := 2) (by decide)
  obtain ⟨k3, fk3⟩ := hcb3.got (o := 3) (by decide)
  obtain ⟨k4, fk4⟩ := hcb3.got (o := 4) (by decide)
  obtain ⟨k5, fk5⟩ := hcb3.got (o := 5) (by decide)
  obtain ⟨k6, fk6⟩ := hcb3.got (o := 6) (by decide)
  obtain ⟨k7, fk7⟩ := hcb3.got (o := 7) (by decide)
  obtain ⟨k8, fk8⟩ := hcb3.got (o := 8) (by decide)
  obtain ⟨k9, fk9⟩ := hcb3.got (o := 9) (by decide)
  obtain ⟨k10, fk10⟩ := hcb3.got (o := 10) (by decide)
  obtain ⟨k11, fk11⟩ := hcb3.got (o := 11) (by decide)
  obtain ⟨k12, fk12⟩ := hcb3.got (o := 12) (by decide)
  obtain ⟨kv, fkv⟩ := hcb3.gotV
  have hbk := hcb3.lt
  simp only [List.getD_cons_zero, List.getD_cons_succ] at k0 k1 k2 k3 k4 k5 k6 k7 k8 k9 k10 k11 k12
  have HCB3 := Lib.hid hcb3
  clear hr hb3 hcb3 HEN
  go_wp2_with fail
  refine (HRE.out _ HB3.out).mono ?_
  rintro e v4 ⟨hr, hb4⟩
  obtain ⟨A4, c4, rfl, hs4⟩ := HRB.out _ _ _ hr
  have hcb4 := HCB3.out.below hb4
  have HB4 := Lib.hid (HB3.out.trans (hb4.mono (Nat.le_of_lt HCB3.out.lt)))
  have hs3 := hs3.below hb4
  clear k0 fk0 k1 fk1 k2 fk2 k3 fk3 k4 fk4 k5 fk5 k6 fk6 k7 fk7 k8 fk8 k9 fk9 k10 fk10 k11 fk11 k12 fk12 kv fkv hbk
  have HBL : Hid (b ≤ v4.heap.size) := Lib.hid (Nat.le_of_lt hcb4.lt)
  have HSAME : Hid (∀ V, Below v4.heap.size v4 V → Calls Try.prog 9 #[.slice A3 BS.length c3, .slice A4 BS.length c4] V fun e w' => e = .returned (.bool true) ∧ ∃ n, w' = V.drewN n) := Lib.hid fun V hV => by
    have h := same_any A3 A4 c3 c4 BS BS V HPL.out HPL.out (hs3.below hV) (hs4.below hV)
    simp only [decide_true] at h
    exact h
  have HC4 : Hid (∀ V, Below v4.heap.size v4 V → V.cell? ⟨b, 0, none⟩ = some (.int .i64 z0) ∧ V.cell? ⟨b, 1, none⟩ = some (.int .i64 z1) ∧ V.cell? ⟨b, 2, none⟩ = some (.int .i64 z2) ∧ V.cell? ⟨b, 3, none⟩ = some (.int .i64 z3) ∧ V.cell? ⟨b, 4, none⟩ = some (.int .i64 z4) ∧ V.cell? ⟨b, 5, none⟩ = some (.int .i64 z5) ∧ V.cell? ⟨b, 6, none⟩ = some (.int .i64 z6) ∧ V.cell? ⟨b, 7, none⟩ = some (.int .i64 z7) ∧ V.cell? ⟨b, 8, none⟩ = some (.int .i64 z8) ∧ V.cell? ⟨b, 9, none⟩ = some (.int .i64 z9) ∧ V.cell? ⟨b, 10, none⟩ = some (.int .i64 z10) ∧ V.cell? ⟨b, 11, none⟩ = some (.int .i64 z11) ∧ V.cell? ⟨b, 12, none⟩ = some (.int .i64 z12) ∧ V.cell? ⟨b, 13, none⟩ = some (.slice A L.length cap) ∧ b < V.heap.size) := Lib.hid fun V hV => by
    have h := hcb4.below hV
    exact ⟨(h.got (o := 0) (by decide)).1, (h.got (o := 1) (by decide)).1, (h.got (o := 2) (by decide)).1, (h.got (o := 3) (by decide)).1, (h.got (o := 4) (by decide)).1, (h.got (o := 5) (by decide)).1, (h.got (o := 6) (by decide)).1, (h.got (o := 7) (by decide)).1, (h.got (o := 8) (by decide)).1, (h.got (o := 9) (by decide)).1, (h.got (o := 10) (by decide)).1, (h.got (o := 11) (by decide)).1, (h.got (o := 12) (by decide)).1, h.gotV.1, h.lt⟩
  clear hr hb4 hcb4 hs3 hs4 HRE HRB HPL
  go_upto_region 4 with fail
  refine wp_region_held_drew (S := (fun V => Below v4.heap.size v4 V)) (by kernel_rfl) (by exact (Below.refl _ _).drew) (fun hHeld => ?_)
  refine wpAnyH_take (i := 0) (oi := { dst := some 21, op := _, type := _, pos := _, after := _, guard := _ }) (v := ?_) rfl (by kernel_rfl) (by kernel_rfl) (by kernel_rfl) (fun _ _ _ h => h) (Or.inl ⟨by rfl, ?_⟩) hHeld ?_
  rotate_left
  · (intro w hSw; clear hSw; go_simp <;> with_reducible rfl)
  try simp only [Act.put, List.setIfInBounds_toArray, List.set_cons_zero, List.set_cons_succ]
  refine wpAnyH_take (i := 1) (oi := { dst := some 22, op := _, type := _, pos := _, after := _, guard := _ }) (v := ?_) rfl (by kernel_rfl) (by kernel_rfl) (by kernel_rfl) (fun _ _ _ h => h) (Or.inl ⟨by rfl, ?_⟩) hHeld ?_
  rotate_left
  · (intro w hSw; clear hSw; go_simp <;> with_reducible rfl)
  try simp only [Act.put, List.setIfInBounds_toArray, List.set_cons_zero, List.set_cons_succ]
  refine wpAnyH_ready (rs := [2]) (by kernel_rfl) (by simp) ?_
  refine AllReadyH.cons (o := { dst := some 23, op := _, type := _, pos := _, after := _, guard := _ }) rfl (fun K hK => ?_) AllReadyH.nil
  go_simp
  refine (HSAME.out _ hHeld).mono ?_
  rintro e y1 ⟨rfl, n1, rfl⟩
  have hKeep := below_drewN (Below.refl v4.heap.size v4) (1 + n1)
  go_wp2_with fail
  refine hK.out _ _ (by (try dsimp only); exact hKeep) (fun hHeld => ?_)
  clear hK K hKeep
  try simp only [Act.put, List.setIfInBounds_toArray, List.set_cons_zero, List.set_cons_succ]
  refine wpAnyH_take (i := 3) (oi := { dst := some 24, op := _, type := _, pos := _, after := _, guard := _ }) (v := ?_) rfl (by kernel_rfl) (by kernel_rfl) (by kernel_rfl) (fun _ _ _ h => h) (Or.inl ⟨by rfl, ?_⟩) hHeld ?_
  rotate_left
  · (intro w hSw; clear hSw; go_simp <;> with_reducible rfl)
  try simp only [Act.put, List.setIfInBounds_toArray, List.set_cons_zero, List.set_cons_succ]
  refine wpAnyH_take (i := 4) (oi := { dst := some 25, op := _, type := _, pos := _, after := _, guard := _ }) (v := ?_) rfl (by kernel_rfl) (by kernel_rfl) (by kernel_rfl) (fun _ _ _ h => h) (Or.inl ⟨by rfl, ?_⟩) hHeld ?_
  rotate_left
  · (intro w hSw; clear hSw; go_simp <;> with_reducible rfl)
  try simp only [Act.put, List.setIfInBounds_toArray, List.set_cons_zero, List.set_cons_succ]
  refine wpAnyH_take (i := 5) (oi := { dst := some 26, op := _, type := _, pos := _, after := _, guard := _ }) (v := ?_) rfl (by kernel_rfl) (by kernel_rfl) (by kernel_rfl) (fun _ _ _ h => h) (Or.inl ⟨by rfl, ?_⟩) hHeld ?_
  rotate_left
  · (intro w hSw; clear hSw; go_simp <;> with_reducible rfl)
  try simp only [Act.put, List.setIfInBounds_toArray, List.set_cons_zero, List.set_cons_succ]
  refine wpAnyH_take (i := 6) (oi := { dst := some 27, op := _, type := _, pos := _, after := _, guard := _ }) (v := ?_) rfl (by kernel_rfl) (by kernel_rfl) (by kernel_rfl) (fun _ _ _ h => h) (Or.inl ⟨by rfl, ?_⟩) hHeld ?_
  rotate_left
  · (intro w hSw; clear hSw; go_simp <;> with_reducible rfl)
  try simp only [Act.put, List.setIfInBounds_toArray, List.set_cons_zero, List.set_cons_succ]
  refine wpAnyH_take (i := 7) (oi := { dst := some 28, op := _, type := _, pos := _, after := _, guard := _ }) (v := ?_) rfl (by kernel_rfl) (by kernel_rfl) (by kernel_rfl) (fun _ _ _ h => h) (Or.inl ⟨by rfl, ?_⟩) hHeld ?_
  rotate_left
  · (intro w hSw; clear hSw; go_simp <;> with_reducible rfl)
  try simp only [Act.put, List.setIfInBounds_toArray, List.set_cons_zero, List.set_cons_succ]
  refine wpAnyH_take (i := 8) (oi := { dst := some 29, op := _, type := _, pos := _, after := _, guard := _ }) (v := ?_) rfl (by kernel_rfl) (by kernel_rfl) (by kernel_rfl) (fun _ _ _ h => h) (Or.inl ⟨by rfl, ?_⟩) hHeld ?_
  rotate_left
  · (intro w hSw; clear hSw; go_simp <;> with_reducible rfl)
  try simp only [Act.put, List.setIfInBounds_toArray, List.set_cons_zero, List.set_cons_succ]
  refine wpAnyH_take (i := 9) (oi := { dst := some 30, op := _, type := _, pos := _, after := _, guard := _ }) (v := ?_) rfl (by kernel_rfl) (by kernel_rfl) (by kernel_rfl) (fun _ _ _ h => h) (Or.inl ⟨by rfl, ?_⟩) hHeld ?_
  rotate_left
  · (intro w hSw; obtain ⟨c0, c1, c2, c3, c4, c5, c6, c7, c8, c9, c10, c11, c12, cv, hbv⟩ := HC4.out _ (hSw); go_simp <;> with_reducible rfl)
  try simp only [Act.put, List.setIfInBounds_toArray, List.set_cons_zero, List.set_cons_succ]
  refine wpAnyH_take (i := 12) (oi := { dst := some 33, op := _, type := _, pos := _, after := _, guard := _ }) (v := ?_) rfl (by kernel_rfl) (by kernel_rfl) (by kernel_rfl) (fun _ _ _ h => h) (Or.inl ⟨by rfl, ?_⟩) hHeld ?_
  rotate_left
  · (intro w hSw; obtain ⟨c0, c1, c2, c3, c4, c5, c6, c7, c8, c9, c10, c11, c12, cv, hbv⟩ := HC4.out _ (hSw); go_simp <;> with_reducible rfl)
  try simp only [Act.put, List.setIfInBounds_toArray, List.set_cons_zero, List.set_cons_succ]
  refine wpAnyH_ready (rs := [10]) (by kernel_rfl) (by simp) ?_
  refine AllReadyH.cons (o := { dst := some 31, op := _, type := _, pos := _, after := _, guard := _ }) rfl (fun K hK => ?_) AllReadyH.nil
  go_simp
  refine (HCK.out _).mono ?_
  rintro e y2 ⟨rfl, hbx⟩
  have hKeep := since_step hHeld hbx
  clear hbx
  go_wp2_with fail
  refine hK.out _ _ (by (try dsimp only); exact hKeep) (fun hHeld => ?_)
  clear hK K hKeep
  try simp only [Act.put, List.setIfInBounds_toArray, List.set_cons_zero, List.set_cons_succ]
  refine wpAnyH_take (i := 11) (oi := { dst := some 32, op := _, type := _, pos := _, after := _, guard := _ }) (v := ?_) rfl (by kernel_rfl) (by kernel_rfl) (by kernel_rfl) (fun _ _ _ h => h) (Or.inl ⟨by rfl, ?_⟩) hHeld ?_
  rotate_left
  · (intro w hSw; clear hSw; go_simp <;> with_reducible rfl)
  try simp only [Act.put, List.setIfInBounds_toArray, List.set_cons_zero, List.set_cons_succ]
  refine wpAnyH_ready (rs := [13]) (by kernel_rfl) (by simp) ?_
  refine AllReadyH.cons (o := { dst := some 34, op := _, type := _, pos := _, after := _, guard := _ }) rfl (fun K hK => ?_) AllReadyH.nil
  go_simp
  refine (HIS.out _).mono ?_
  rintro e y3 ⟨rfl, hbx⟩
  have hKeep := since_step hHeld hbx
  clear hbx
  go_wp2_with fail
  refine hK.out _ _ (by (try dsimp only); exact hKeep) (fun hHeld => ?_)
  clear hK K hKeep
  try simp only [Act.put, List.setIfInBounds_toArray, List.set_cons_zero, List.set_cons_succ]
  refine wpAnyH_take (i := 14) (oi := { dst := some 35, op := _, type := _, pos := _, after := _, guard := _ }) (v := ?_) rfl (by kernel_rfl) (by kernel_rfl) (by kernel_rfl) (fun _ _ _ h => h) (Or.inl ⟨by rfl, ?_⟩) hHeld ?_
  rotate_left
  · (intro w hSw; clear hSw; go_simp <;> with_reducible rfl)
  try simp only [Act.put, List.setIfInBounds_toArray, List.set_cons_zero, List.set_cons_succ]
  refine wpAnyH_take (i := 15) (oi := { dst := some 36, op := _, type := _, pos := _, after := _, guard := _ }) (v := ?_) rfl (by kernel_rfl) (by kernel_rfl) (by kernel_rfl) (fun _ _ _ h => h) (Or.inl ⟨by rfl, ?_⟩) hHeld ?_
  rotate_left
  · (intro w hSw; clear hSw; go_simp <;> with_reducible rfl)
  try simp only [Act.put, List.setIfInBounds_toArray, List.set_cons_zero, List.set_cons_succ]
  refine wpAnyH_take (i := 16) (oi := { dst := some 37, op := _, type := _, pos := _, after := _, guard := _ }) (v := ?_) rfl (by kernel_rfl) (by kernel_rfl) (by kernel_rfl) (fun _ _ _ h => h) (Or.inl ⟨by rfl, ?_⟩) hHeld ?_
  rotate_left
  · (intro w hSw; clear hSw; go_simp <;> with_reducible rfl)
  try simp only [Act.put, List.setIfInBounds_toArray, List.set_cons_zero, List.set_cons_succ]
  refine wpAnyH_take (i := 17) (oi := { dst := some 38, op := _, type := _, pos := _, after := _, guard := _ }) (v := ?_) rfl (by kernel_rfl) (by kernel_rfl) (by kernel_rfl) (fun _ _ _ h => h) (Or.inl ⟨by rfl, ?_⟩) hHeld ?_
  rotate_left
  · (intro w hSw; clear hSw; go_simp <;> with_reducible rfl)
  try simp only [Act.put, List.setIfInBounds_toArray, List.set_cons_zero, List.set_cons_succ]
  refine wpAnyH_take (i := 19) (oi := { dst := some 40, op := _, type := _, pos := _, after := _, guard := _ }) (v := ?_) rfl (by kernel_rfl) (by kernel_rfl) (by kernel_rfl) (fun _ _ _ h => h) (Or.inl ⟨by rfl, ?_⟩) hHeld ?_
  rotate_left
  · (intro w hSw; clear hSw; go_simp <;> with_reducible rfl)
  try simp only [Act.put, List.setIfInBounds_toArray, List.set_cons_zero, List.set_cons_succ]
  refine wpAnyH_ready (rs := [18]) (by kernel_rfl) (by simp) ?_
  refine AllReadyH.cons (o := { dst := some 39, op := _, type := _, pos := _, after := _, guard := _ }) rfl (fun K hK => ?_) AllReadyH.nil
  go_simp
  refine (HF1.out _).mono ?_
  rintro e y4 ⟨rfl, hbx⟩
  have hKeep := since_step hHeld hbx
  clear hbx
  go_wp2_with fail
  refine hK.out _ _ (by (try dsimp only); exact hKeep) (fun hHeld => ?_)
  clear hK K hKeep
  try simp only [Act.put, List.setIfInBounds_toArray, List.set_cons_zero, List.set_cons_succ]
  refine wpAnyH_ready (rs := [20]) (by kernel_rfl) (by simp) ?_
  refine AllReadyH.cons (o := { dst := some 41, op := _, type := _, pos := _, after := _, guard := _ }) rfl (fun K hK => ?_) AllReadyH.nil
  go_simp
  refine (HF2.out _).mono ?_
  rintro e y5 ⟨rfl, hbx⟩
  have hKeep := since_step hHeld hbx
  clear hbx
  go_wp2_with fail
  refine hK.out _ _ (by (try dsimp only); exact hKeep) (fun hHeld => ?_)
  clear hK K hKeep
  try simp only [Act.put, List.setIfInBounds_toArray, List.set_cons_zero, List.set_cons_succ]
  refine wpAnyH_take (i := 21) (oi := { dst := some 42, op := _, type := _, pos := _, after := _, guard := _ }) (v := ?_) rfl (by kernel_rfl) (by kernel_rfl) (by kernel_rfl) (fun _ _ _ h => h) (Or.inl ⟨by rfl, ?_⟩) hHeld ?_
  rotate_left
  · (intro w hSw; clear hSw; go_simp <;> with_reducible rfl)
  try simp only [Act.put, List.setIfInBounds_toArray, List.set_cons_zero, List.set_cons_succ]
  refine wpAnyH_take (i := 22) (oi := { dst := some 43, op := _, type := _, pos := _, after := _, guard := _ }) (v := ?_) rfl (by kernel_rfl) (by kernel_rfl) (by kernel_rfl) (fun _ _ _ h => h) (Or.inl ⟨by rfl, ?_⟩) hHeld ?_
  rotate_left
  · (intro w hSw; clear hSw; go_simp <;> with_reducible rfl)
  try simp only [Act.put, List.setIfInBounds_toArray, List.set_cons_zero, List.set_cons_succ]
  refine wpAnyH_take (i := 23) (oi := { dst := some 44, op := _, type := _, pos := _, after := _, guard := _ }) (v := ?_) rfl (by kernel_rfl) (by kernel_rfl) (by kernel_rfl) (fun _ _ _ h => h) (Or.inl ⟨by rfl, ?_⟩) hHeld ?_
  rotate_left
  · (intro w hSw; clear hSw; go_simp <;> with_reducible rfl)
  try simp only [Act.put, List.setIfInBounds_toArray, List.set_cons_zero, List.set_cons_succ]
  refine wpAnyH_ready (rs := [24]) (by kernel_rfl) (by simp) ?_
  refine AllReadyH.cons (o := { dst := some 45, op := _, type := _, pos := _, after := _, guard := _ }) rfl (fun K hK => ?_) AllReadyH.nil
  go_simp
  refine (HLV.out _).mono ?_
  rintro e y6 ⟨rfl, hbx⟩
  have hKeep := since_step hHeld hbx
  clear hbx
  go_wp2_with fail
  refine hK.out _ _ (by (try dsimp only); exact hKeep) (fun hHeld => ?_)
  clear hK K hKeep
  try simp only [Act.put, List.setIfInBounds_toArray, List.set_cons_zero, List.set_cons_succ]
  refine wpAnyH_take (i := 25) (oi := { dst := some 46, op := _, type := _, pos := _, after := _, guard := _ }) (v := ?_) rfl (by kernel_rfl) (by kernel_rfl) (by kernel_rfl) (fun _ _ _ h => h) (Or.inl ⟨by rfl, ?_⟩) hHeld ?_
  rotate_left
  · (intro w hSw; clear hSw; go_simp <;> with_reducible rfl)
  try simp only [Act.put, List.setIfInBounds_toArray, List.set_cons_zero, List.set_cons_succ]
  refine wpAnyH_take (i := 26) (oi := { dst := some 4, op := _, type := _, pos := _, after := _, guard := _ }) (v := ?_) rfl (by kernel_rfl) (by kernel_rfl) (by kernel_rfl) (fun _ _ _ h => h) (Or.inl ⟨by rfl, ?_⟩) hHeld ?_
  rotate_left
  · (intro w hSw; clear hSw; go_simp <;> with_reducible rfl)
  try simp only [Act.put, List.setIfInBounds_toArray, List.set_cons_zero, List.set_cons_succ]
  refine wpAnyH_done (by kernel_rfl) ?_ _
  have hB9 := HB4.out.trans (hHeld.mono HBL.out)
  go_wp2_with fail
  go_ret
  exact ⟨rfl, hB9⟩
end Go.Proofs.Ytpmnjojednbnpaa
