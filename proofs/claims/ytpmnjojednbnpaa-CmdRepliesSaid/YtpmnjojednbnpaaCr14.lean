import Derived.Test.YtpmnjojednbnpaaCr13
import Derived.Test.YtpmnjojednbnpaaCr08
section
namespace Go.Proofs.Ytpmnjojednbnpaa
open Go.ChangeShapes Go.WideShapes Go.ChangeAt Go.RowKit
set_option linter.unusedVariables false
set_option linter.unusedSimpArgs false

set_option maxHeartbeats 4000000 in
set_option maxRecDepth 100000 in
theorem enc1r_any (W g wb : Nat) (A : Option Addr) (c : Nat) (bs : List Nat) (n : Int) (w : World) (hS : WrS W w g A c bs) (hx : w.heap[wb]? = some (.cells #[.pointer (some ⟨g, 0, none⟩)] 59 (0, 0))) (hbl : bs.length ≤ 1000000) (h6 : In64p n) :
    Calls Try.prog 49 #[.int .i64 n, .pointer (some ⟨wb, 0, none⟩)] w fun e w' => e = .returned (.tuple #[]) ∧ ∃ A' c', Wt W g (ob A bs c) A' c' (bs ++ packI n) w w' := by
  have HI := Lib.hid (wint1 W g A c bs n w hS hbl h6)
  have k0 : w.cell? ⟨wb, 0, none⟩ = some (.pointer (some ⟨g, 0, none⟩)) := by rw [cell_of_row w wb 0 _ _ (0, 0) hx]; rfl
  have hwl : wb < w.heap.size := (Array.getElem?_eq_some_iff.1 hx).1
  clear hx hS
  go_enter Try.func49, Try.ntmps49
  go_wp2_with fail
  refine HI.out.mono ?_
  rintro e w1 ⟨rfl, A', c', hW⟩
  go_wp2_with fail
  go_end0
  exact ⟨rfl, A', c', hW⟩
set_option maxHeartbeats 16000000 in
set_option maxRecDepth 100000 in
theorem wput64r (W g wb : Nat) (A : Option Addr) (c : Nat) (bs : List Nat) (A0 : Option Addr) (cap : Nat) (l : List Int) (w : World) (hS : WrS W w g A c bs) (hx : w.heap[wb]? = some (.cells #[.pointer (some ⟨g, 0, none⟩)] 59 (0, 0))) (hl : l.length ≤ 100) (hbl : bs.length + 10 * (l.length + 1) ≤ 1000000) (h6 : ∀ x ∈ l, In64p x) (hs : Sl w A0 (ints .i64 l))
    (hf : ∀ b o, A0 = some ⟨b, o, none⟩ → l ≠ [] → b ≠ g ∧ ob A bs c ≠ some b) :
    Calls Try.prog 26 #[.agg #[.pointer (some ⟨g, 0, none⟩)], .slice A0 l.length cap, .func (.func 49) #[] #[.pointer (some ⟨wb, 0, none⟩)]] w fun e w' => e = .returned (.tuple #[]) ∧ ∃ A' c', Wt W g (ob A bs c) A' c' (bs ++ packL ((l.length : Int) :: l)) w w' := by
  have hb0 : Below w.heap.size w ((w.alloc (.cells #[.pointer (some ⟨g, 0, none⟩)] 59)).alloc (.cells #[.int .i64 (l.length : Int)] 3)) := since_alloc (since_alloc (Below.refl _ w) (.cells #[.pointer (some ⟨g, 0, none⟩)] 59)) (.cells #[.int .i64 (l.length : Int)] 3)
  have hS1 := hS.below hb0
  have hs1 := hs.below hb0
  have hx1 := (hb0.block wb (Array.getElem?_eq_some_iff.1 hx).1).trans hx
  have hlt := hS.wr.lt
  have H6 := Lib.hid h6
  have HS1 := Lib.hid hS1
  have HX1 := Lib.hid hx1
  have HT0 : Hid (∀ A' c' bs' V, Wt W g (ob A bs c) A' c' bs' ((w.alloc (.cells #[.pointer (some ⟨g, 0, none⟩)] 59)).alloc (.cells #[.int .i64 (l.length : Int)] 3)) V → Wt W g (ob A bs c) A' c' bs' w V) := Lib.hid fun A' c' bs' V h => ((Wt.refl hS).below hb0).trans h
  have HEL : Hid (∀ V, Chg g (ob A bs c) ((w.alloc (.cells #[.pointer (some ⟨g, 0, none⟩)] 59)).alloc (.cells #[.int .i64 (l.length : Int)] 3)) V → ∀ k, (hk : k < l.length) → ∃ b o, A0 = some ⟨b, o, none⟩ ∧ V.cell? ⟨b, o + k, none⟩ = some (.int .i64 l[k])) := Lib.hid fun V hC k hk => by
    obtain ⟨b, o, hA0, hc0⟩ := hs1.int hk
    obtain ⟨hbg, hbr⟩ := hf b o hA0 (fun e => by subst e; simp at hk)
    refine ⟨b, o, hA0, ?_⟩
    rw [World.cell?_of_block (a := ⟨b, o + k, none⟩) (hC.block b (World.block_lt_of_cell? _ _ hc0) hbg (fun e => hbr e.symm))]
    exact hc0
  have HPL : Hid (∀ k, k ≤ l.length → (packL ((l.length : Int) :: l.take k)).length ≤ 10 * (k + 1)) := Lib.hid fun k => by
    induction k with
    | zero =>
      intro _
      have h2 := vb_len10 (zz_lt (n := (l.length : Int)) (by unfold In64p; omega))
      simp [packL, packI]
      exact h2
    | succ k ih =>
      intro hk
      have hlt : k < l.length := by omega
      have e : (l.length : Int) :: l.take (k + 1) = ((l.length : Int) :: l.take k) ++ [l[k]] := by rw [List.take_succ_eq_append_getElem hlt]; rfl
      rw [e, packL_append, List.length_append]
      have h1 := ih (by omega)
      have h2 := vb_len10 (zz_lt (h6 _ (List.getElem_mem hlt)))
      have h3 : packL [l[k]] = vb (zz l[k]) := by simp [packL, packI]
      rw [h3]
      omega
  have HIN := Lib.hid (wintsW W g A c bs (some ⟨w.heap.size + 1, 0, none⟩) 1 [(l.length : Int)] ((w.alloc (.cells #[.pointer (some ⟨g, 0, none⟩)] 59)).alloc (.cells #[.int .i64 (l.length : Int)] 3)) hS1 (by simp) (by simp; omega) (fun x hx => by rw [List.mem_singleton.1 hx]; unfold In64p; omega) (Sl.new1 _ _ _ _) (fun b o e _ => by
    injection e with e
    injection e with e _
    subst e
    exact ⟨by omega, fun e2 => own_newB hS.wr.own (Nat.le_succ _) e2⟩))
  clear hs hs1 hf h6 hS hS1 hb0 hx hx1
  go_enter Try.func26, Try.ntmps26
  go_wp2_with fail
  refine HIN.out.mono ?_
  rintro e w2 ⟨rfl, A1, c1, hW1⟩
  have HW0 := Lib.hid hW1
  generalize (w.alloc (.cells #[.pointer (some ⟨g, 0, none⟩)] 59)).alloc (.cells #[.int .i64 (l.length : Int)] 3) = W1 at *
  clear HIN hW1
  go_wp2_with fail
  go_loopw [15] (fun i wr => ∃ (k : Nat) (A2 : Option Addr) (c2 : Nat), k ≤ l.length ∧ i = .int .i64 k ∧ Wt W g (ob A bs c) A2 c2 (bs ++ packL ((l.length : Int) :: l.take k)) W1 wr) (fun i _ => l.length - (intOf i).toNat)
  case atStart => exact ⟨0, A1, c1, by omega, rfl, by simpa using HW0.out⟩
  case round =>
    obtain ⟨k, A2, c2, hk, rfl, hW⟩ := hrel
    by_cases hlk : k < l.length
    · have hlk1 : (k : Int) < (l.length : Int) := by omega
      have hk0 : (0 : Int) ≤ (k : Int) := by omega
      obtain ⟨b, o, hA0, hce⟩ := HEL.out wr hW.chg k hlk
      have hbox := HS1.out.keep hW.chg HX1.out (fun cs t f e => by injection e with _ e2 _; subst e2; decide)
      have hT : packL ((l.length : Int) :: l.take (k + 1)) = packL ((l.length : Int) :: l.take k) ++ packI l[k] := by
        have e : (l.length : Int) :: l.take (k + 1) = ((l.length : Int) :: l.take k) ++ [l[k]] := by rw [List.take_succ_eq_append_getElem hlk]; rfl
        rw [e, packL_append]; simp [packL]
      have hpk := HPL.out k hk
      obtain ⟨n, hn⟩ : ∃ n, l[k] = n := ⟨_, rfl⟩
      have hn6 : In64p n := by rw [← hn]; exact H6.out _ (List.getElem_mem hlk)
      rw [hn] at hce hT
      have HI := Lib.hid (enc1r_any W g wb A2 c2 (bs ++ packL ((l.length : Int) :: l.take k)) n wr hW.s hbox (by rw [List.length_append]; omega) hn6)
      have HT := Lib.hid hT
      have HW := Lib.hid hW
      subst hA0
      clear hT hn hn6 hpk hbox hW
      go_wp2_with (first | (go_at_call 49; refine HI.out.mono ?_; rintro e w2 ⟨rfl, A3, c3, hW3⟩) | fail)
      have hWN := HW.out.trans hW3
      rw [List.append_assoc, ← HT.out] at hWN
      clear hW3 HI
      go_roundw
      case rel => exact ⟨k + 1, A3, c3, by omega, by go_num, hWN⟩
      case measure => simp [intOf]; omega
    · obtain rfl : k = l.length := by omega
      rw [List.take_length] at hW
      go_wp2_with fail
      go_end0
      exact ⟨rfl, A2, c2, HT0.out _ _ _ _ hW⟩
def repL (er : Int) (nums : List Int) (debs : List Db) (rets : List Rn) : List Int := er :: (((nums.length : Int) :: nums) ++ (((debs.length : Int) :: debs.flatMap Db.nums) ++ ((rets.length : Int) :: rets.flatMap Rn.nums)))
set_option maxHeartbeats 16000000 in
set_option maxRecDepth 100000 in
theorem encrep34 (er : Int) (A1 A2 A3 : Option Addr) (k1 k2 k3 : Nat) (nums : List Int) (debs : List Db) (rets : List Rn) (w : World) (he : In64p er) (hn : nums.length ≤ 100) (h6 : ∀ x ∈ nums, In64p x) (hs1 : Sl w A1 (ints .i64 nums)) (hd : debs.length ≤ 100) (hd6 : ∀ x ∈ debs, x.in64) (hs2 : Sl w A2 (rc Db.cells debs)) (hr : rets.length ≤ 50) (hr6 : ∀ x ∈ rets, x.ok w.heap.size w) (hs3 : Sl w A3 (rc Rn.cells rets)) :
    Calls Try.prog 20 #[.agg #[.int .i64 er, .slice A1 nums.length k1, .slice A2 debs.length k2, .slice A3 rets.length k3]] w fun e w' => BRow w.heap.size w' e (packL (repL er nums debs rets)) ∧ Below w.heap.size w w' := by
  have hA1 : ∀ b o, A1 = some ⟨b, o, none⟩ → nums ≠ [] → b < w.heap.size := fun b o e hne => by
    obtain ⟨b1, o1, e1, h1⟩ := hs1.int (j := 0) (List.length_pos_iff.2 hne)
    rw [e] at e1
    injection e1 with e1
    injection e1 with e1 _
    subst e1
    exact World.block_lt_of_cell? _ _ h1
  have hA2 : ∀ b o, A2 = some ⟨b, o, none⟩ → debs ≠ [] → b < w.heap.size := fun b o e hne => by
    obtain ⟨b1, o1, e1, h1, _⟩ := Sl.elem (m := 5) (fun x => rfl) (by decide) hs2 (List.length_pos_iff.2 hne)
    rw [e] at e1
    injection e1 with e1
    injection e1 with e1 _
    omega
  have hA3 : ∀ b o, A3 = some ⟨b, o, none⟩ → rets ≠ [] → b < w.heap.size := fun b o e hne => by
    obtain ⟨b1, o1, e1, h1, _⟩ := Sl.elem (m := 4) (fun x => rfl) (by decide) hs3 (List.length_pos_iff.2 hne)
    rw [e] at e1
    injection e1 with e1
    injection e1 with e1 _
    omega
  obtain ⟨W, hW⟩ : ∃ W, w.heap.size = W := ⟨_, rfl⟩
  have hal := since_alloc (Below.refl _ w) (.cells #[.int .i64 er, .slice A1 nums.length k1, .slice A2 debs.length k2, .slice A3 rets.length k3] 50)
  have hby := heap_alloc_new w (.cells #[.int .i64 er, .slice A1 nums.length k1, .slice A2 debs.length k2, .slice A3 rets.length k3] 50)
  rw [hW] at hal hby hA1 hA2 hA3 hr6 ⊢
  have HS : Hid (∀ V, Below W w V → Sl V A1 (ints .i64 nums) ∧ Sl V A2 (rc Db.cells debs) ∧ Sl V A3 (rc Rn.cells rets) ∧ ∀ x ∈ rets, x.ok W V) := Lib.hid fun V hV => by
    have hV2 : Below w.heap.size w V := by rw [hW]; exact hV
    exact ⟨hs1.below hV2, hs2.below hV2, hs3.below hV2, fun x hx => (hr6 x hx).below hV⟩
  have HA1 := Lib.hid hA1
  have HA2 := Lib.hid hA2
  have HA3 := Lib.hid hA3
  have H6 := Lib.hid h6
  have HD6 := Lib.hid hd6
  have HWE := Lib.hid hW
  have HB0 := Lib.hid hal
  have HX0 := Lib.hid hby
  have HN := Lib.hid (fun V => wnewW V)
  have HPL : Hid ((packL [er]).length ≤ 10 ∧ (packL ((nums.length : Int) :: nums)).length ≤ 1010 ∧ (packL ((debs.length : Int) :: debs.flatMap Db.nums)).length ≤ 5010 ∧ (packL ((rets.length : Int) :: rets.flatMap Rn.nums)).length ≤ 152010) := Lib.hid (by
    have hl : ∀ n : Nat, n ≤ 1000 → (packI (n : Int)).length ≤ 10 := fun n h => vb_len10 (zz_lt (by unfold In64p; omega))
    have q1 := packL_le h6
    have q2 := Db.encl hd6
    have q3 := Rn.lens hr6
    have q0 := packL_le (l := [er]) (fun x hx => by rw [List.mem_singleton.1 hx]; exact he)
    refine ⟨by simpa using q0, ?_, ?_, ?_⟩ <;> rw [packL_cons, List.length_append]
    · have := hl nums.length (by omega); omega
    · have := hl debs.length (by omega); omega
    · have := hl rets.length (by omega); omega)
  have HT : Hid (packL [er] ++ packL ((nums.length : Int) :: nums) ++ packL ((debs.length : Int) :: debs.flatMap Db.nums) ++ packL ((rets.length : Int) :: rets.flatMap Rn.nums) = packL (repL er nums debs rets)) := Lib.hid (by
    rw [List.append_assoc, List.append_assoc, ← packL_append, ← packL_append, ← packL_append]; rfl)
  clear hal hby hA1 hA2 hA3 hs1 hs2 hs3 hr6 hW h6 hd6
  go_enter Try.func20, Try.ntmps20
  go_wp2_with fail
  refine (HN.out _).mono ?_
  rintro e v1 ⟨g, rfl, hS1, hb1⟩
  rw [World.size_alloc, HWE.out] at hS1 hb1
  have hS1 := hS1.mono (Nat.le_succ W)
  have hx1 := (hb1.block W (Nat.lt_succ_self W)).trans HX0.out
  have hB1 : Below W w v1 := HB0.out.trans (hb1.mono (Nat.le_succ W))
  have hWl := (Array.getElem?_eq_some_iff.1 hx1).1
  have hal := since_alloc (since_alloc (Below.refl _ v1) (.cells #[.pointer (some ⟨g, 0, none⟩)] 59)) (.cells #[.int .i64 er] 3)
  have hq1 : ((v1.alloc (.cells #[.pointer (some ⟨g, 0, none⟩)] 59)).alloc (.cells #[.int .i64 er] 3)).heap[v1.heap.size]? = some (.cells #[.pointer (some ⟨g, 0, none⟩)] 59 (0, 0)) := by
    rw [(since_alloc (Below.refl _ (v1.alloc (.cells #[.pointer (some ⟨g, 0, none⟩)] 59))) (.cells #[.int .i64 er] 3)).block v1.heap.size (by rw [World.size_alloc]; omega)]
    exact heap_alloc_new v1 _
  have hS2 := hS1.below hal
  have hx2 := (hal.block W hWl).trans hx1
  have hB2 := hB1.trans (hal.mono (Nat.le_of_lt hWl))
  have HIN := Lib.hid (wintsW W g none 0 [] (some ⟨v1.heap.size + 1, 0, none⟩) 1 [er] ((v1.alloc (.cells #[.pointer (some ⟨g, 0, none⟩)] 59)).alloc (.cells #[.int .i64 er] 3)) hS2 (by simp) (by simp) (fun x hx => by rw [List.mem_singleton.1 hx]; exact he) (Sl.new1 _ _ _ _) (fun b o e _ => by
    injection e with e
    injection e with e _
    subst e
    have := hS1.wr.lt
    exact ⟨by omega, fun e2 => by cases e2⟩))
  have HWS : Hid (W ≤ ((v1.alloc (.cells #[.pointer (some ⟨g, 0, none⟩)] 59)).alloc (.cells #[.int .i64 er] 3)).heap.size) := Lib.hid (Nat.le_trans (Nat.le_of_lt hWl) hal.size)
  have HK : Hid (∀ V, Chg g (ob none [] 0) ((v1.alloc (.cells #[.pointer (some ⟨g, 0, none⟩)] 59)).alloc (.cells #[.int .i64 er] 3)) V → V.heap[v1.heap.size]? = some (.cells #[.pointer (some ⟨g, 0, none⟩)] 59 (0, 0)) ∧ V.heap[W]? = some (.cells #[.int .i64 er, .slice A1 nums.length k1, .slice A2 debs.length k2, .slice A3 rets.length k3] 50 (0, 0)) ∧ Below W w V ∧ W ≤ V.heap.size) := Lib.hid fun V hC =>
    ⟨hS2.keep hC hq1 (fun cs t f e => by injection e with _ e2 _; subst e2; decide), hS2.keep hC hx2 (fun cs t f e => by injection e with _ e2 _; subst e2; decide), hB2.trans (hS2.old HWS.out hC), Nat.le_trans HWS.out hC.size⟩
  have e0 : v1.cell? ⟨W, 0, none⟩ = some (.int .i64 er) := (cell_of_row v1 W 0 _ _ (0, 0) hx1).trans rfl
  rw [HWE.out]
  clear hS1 hb1 hx1 hB1 hal hq1 hS2 hx2 hB2 HN
  go_wp2_with fail
  refine HIN.out.mono ?_
  rintro e v2 ⟨rfl, B2, c2, h2⟩
  rw [List.nil_append] at h2
  have H2 := Lib.hid h2
  clear h2 HIN e0 hWl
  obtain ⟨xq, xw, hB, hWs⟩ := HK.out v2 H2.out.chg
  obtain ⟨t1, t2, t3, t4⟩ := HS.out v2 hB
  have p0 : v2.cell? ⟨v1.heap.size, 0, none⟩ = some (.pointer (some ⟨g, 0, none⟩)) := (cell_of_row v2 v1.heap.size 0 _ _ (0, 0) xq).trans rfl
  have l0 := (Array.getElem?_eq_some_iff.1 xq).1
  have pw : v2.cell? ⟨W, 1, none⟩ = some (.slice A1 nums.length k1) := (cell_of_row v2 W 1 _ _ (0, 0) xw).trans rfl
  have lw := (Array.getElem?_eq_some_iff.1 xw).1
  have hb : (packL [er]).length + 10 * (nums.length + 1) ≤ 1000000 := by have := HPL.out.1; omega
  have HC := Lib.hid (wput64r W g v1.heap.size B2 c2 (packL [er]) A1 k1 nums v2 H2.out.s xq hn hb H6.out t1 (fun b o e hne => by have h3 := HA1.out b o e hne; have h4 := H2.out.s.ge; exact ⟨by omega, fun e2 => by have := H2.out.s.row b e2; omega⟩))
  clear xq xw hB hWs t1 t2 t3 t4 hb
  go_wp2_with fail
  refine HC.out.mono ?_
  rintro e v3 ⟨rfl, B3, c3, hw⟩
  have H3 := Lib.hid (H2.out.trans hw)
  clear hw HC H2 p0 l0 pw lw
  obtain ⟨xq, xw, hB, hWs⟩ := HK.out v3 H3.out.chg
  obtain ⟨t1, t2, t3, t4⟩ := HS.out v3 hB
  have p0 : v3.cell? ⟨v1.heap.size, 0, none⟩ = some (.pointer (some ⟨g, 0, none⟩)) := (cell_of_row v3 v1.heap.size 0 _ _ (0, 0) xq).trans rfl
  have l0 := (Array.getElem?_eq_some_iff.1 xq).1
  have pw : v3.cell? ⟨W, 2, none⟩ = some (.slice A2 debs.length k2) := (cell_of_row v3 W 2 _ _ (0, 0) xw).trans rfl
  have lw := (Array.getElem?_eq_some_iff.1 xw).1
  have hb : (packL [er] ++ packL ((nums.length : Int) :: nums)).length ≤ 700000 := by have := HPL.out; rw [List.length_append]; omega
  have HC := Lib.hid (wputD W g v1.heap.size B3 c3 (packL [er] ++ packL ((nums.length : Int) :: nums)) A2 k2 debs v3 H3.out.s xq hd hb HD6.out t2 (fun b o e hne => by have h3 := HA2.out b o e hne; have h4 := H3.out.s.ge; exact ⟨by omega, fun e2 => by have := H3.out.s.row b e2; omega⟩))
  clear xq xw hB hWs t1 t2 t3 t4 hb
  go_wp2_with fail
  refine HC.out.mono ?_
  rintro e v4 ⟨rfl, B4, c4, hw⟩
  have H4 := Lib.hid (H3.out.trans hw)
  clear hw HC H3 p0 l0 pw lw
  obtain ⟨xq, xw, hB, hWs⟩ := HK.out v4 H4.out.chg
  obtain ⟨t1, t2, t3, t4⟩ := HS.out v4 hB
  have p0 : v4.cell? ⟨v1.heap.size, 0, none⟩ = some (.pointer (some ⟨g, 0, none⟩)) := (cell_of_row v4 v1.heap.size 0 _ _ (0, 0) xq).trans rfl
  have l0 := (Array.getElem?_eq_some_iff.1 xq).1
  have pw : v4.cell? ⟨W, 3, none⟩ = some (.slice A3 rets.length k3) := (cell_of_row v4 W 3 _ _ (0, 0) xw).trans rfl
  have lw := (Array.getElem?_eq_some_iff.1 xw).1
  have hb : (packL [er] ++ packL ((nums.length : Int) :: nums) ++ packL ((debs.length : Int) :: debs.flatMap Db.nums)).length ≤ 200000 := by have := HPL.out; rw [List.length_append, List.length_append]; omega
  have HC := Lib.hid (wputR W g v1.heap.size B4 c4 (packL [er] ++ packL ((nums.length : Int) :: nums) ++ packL ((debs.length : Int) :: debs.flatMap Db.nums)) A3 k3 rets v4 H4.out.s hWs xq (by omega) hb t4 t3 HA3.out)
  clear xq xw hB hWs t1 t2 t3 t4 hb
  go_wp2_with fail
  refine HC.out.mono ?_
  rintro e v5 ⟨rfl, B5, c5, hw⟩
  have H5 := Lib.hid (H4.out.trans hw)
  clear hw HC H4 p0 l0 pw lw
  obtain ⟨xq, xw, hB, hWs⟩ := HK.out v5 H5.out.chg
  have p0 : v5.cell? ⟨v1.heap.size, 0, none⟩ = some (.pointer (some ⟨g, 0, none⟩)) := (cell_of_row v5 v1.heap.size 0 _ _ (0, 0) xq).trans rfl
  have l0 := (Array.getElem?_eq_some_iff.1 xq).1
  have hw5 := H5.out.s.wr
  rw [HT.out] at hw5
  have hpl : (packL (repL er nums debs rets)).length ≤ 10000000 := by
    rw [← HT.out, List.length_append, List.length_append, List.length_append]
    have := HPL.out
    omega
  have HD := Lib.hid (wdone_any g B5 c5 (packL (repL er nums debs rets)) v5 hw5 hpl)
  have HBB := Lib.hid hB
  have HWS5 := Lib.hid hWs
  obtain ⟨BF, hBF⟩ : ∃ BF, packL (repL er nums debs rets) = BF := ⟨_, rfl⟩
  rw [hBF] at HD
  have HBF := Lib.hid hBF
  clear xq xw hB hWs hw5 hpl HK H5 hBF
  go_wp2_with fail
  refine HD.out.mono ?_
  rintro e v6 ⟨⟨AF, cF, rfl, ownF⟩, hb6⟩
  have hB6 := HBB.out.trans (hb6.mono HWS5.out)
  go_wp2_with fail
  go_ret
  rw [HBF.out]
  refine ⟨⟨AF, cF, rfl, ?_⟩, hB6⟩
  exact own_base34 ownF HWS5.out
end Go.Proofs.Ytpmnjojednbnpaa
end
section
namespace Go.Proofs.Ytpmnjojednbnpaa
open Go.ChangeShapes Go.WideShapes Go.ChangeAt Go.RowKit
set_option linter.unusedVariables false
set_option linter.unusedSimpArgs false

structure Can {α : Type} (f : Rs → α × Rs) (enc : α → List Int) (ok : α → Prop) : Prop where
  stuck : ∀ s, s.err ≠ 0 → (f s).2 = s
  back : ∀ s, (∀ c ∈ s.B, c < 256) → s.err = 0 → (f s).2.err = 0 → s.B = packL (enc (f s).1) ++ (f s).2.B ∧ ok (f s).1 ∧ ∀ c ∈ (f s).2.B, c < 256
  pack : ∀ x r, ok x → f ⟨packL (enc x) ++ r, 0⟩ = (x, ⟨r, 0⟩)
theorem packL_one (x : Int) : packL [x] = packI x := by simp [packL]
theorem canM : Can rdM (fun x => [x]) In64p := by
  refine ⟨fun s h => ?_, fun s h h0 he => ?_, fun x r h => ?_⟩
  · exact rdM_stuck h
  · skip
    obtain ⟨a, b, c⟩ := rdM_oct h h0 he
    exact ⟨by rw [packL_one]; exact a, b, c⟩
  · rw [packL_one]; exact rdM_pack h r
def rd2 {α β : Type} (f : Rs → α × Rs) (g : Rs → β × Rs) (s : Rs) : (α × β) × Rs := (((f s).1, (g (f s).2).1), (g (f s).2).2)
theorem Can.two {α β : Type} {f : Rs → α × Rs} {g : Rs → β × Rs} {ef : α → List Int} {eg : β → List Int} {okf : α → Prop} {okg : β → Prop} (hf : Can f ef okf) (hg : Can g eg okg) : Can (rd2 f g) (fun x => ef x.1 ++ eg x.2) (fun x => okf x.1 ∧ okg x.2) := by
  refine ⟨fun s h => ?_, fun s h h0 he => ?_, fun x r h => ?_⟩
  · show (g (f s).2).2 = s; rw [hf.stuck s h, hg.stuck s h]
  · skip
    have he : (g (f s).2).2.err = 0 := he
    have h1 : (f s).2.err = 0 := by
      rcases Classical.em ((f s).2.err = 0) with h1 | h1
      · exact h1
      · rw [hg.stuck _ h1] at he
        exact he
    obtain ⟨a, b, c⟩ := hf.back s h h0 h1
    obtain ⟨a2, b2, c2⟩ := hg.back _ c h1 he
    refine ⟨?_, ⟨b, b2⟩, c2⟩
    show s.B = packL (ef (f s).1 ++ eg (g (f s).2).1) ++ (g (f s).2).2.B
    rw [packL_append, List.append_assoc, ← a2]
    exact a
  · skip
    have e1 := hf.pack x.1 (packL (eg x.2) ++ r) h.1
    have e2 := hg.pack x.2 r h.2
    simp only [rd2, packL_append, List.append_assoc, e1, e2]
def rdU {α β : Type} (u : α → β) (f : Rs → α × Rs) (s : Rs) : β × Rs := (u (f s).1, (f s).2)
theorem Can.map {α β : Type} {f : Rs → α × Rs} {ef : α → List Int} {okf : α → Prop} (hf : Can f ef okf) (u : α → β) (v : β → α) (h1 : ∀ x, v (u x) = x) (h2 : ∀ y, u (v y) = y) : Can (rdU u f) (fun y => ef (v y)) (fun y => okf (v y)) := by
  refine ⟨fun s h => ?_, fun s h h0 he => ?_, fun x r h => ?_⟩
  · exact hf.stuck s h
  · skip
    have := hf.back s h h0 he
    show s.B = packL (ef (v (u (f s).1))) ++ (f s).2.B ∧ okf (v (u (f s).1)) ∧ _
    rw [h1]
    exact this
  · skip
    have := hf.pack (v x) r h
    unfold rdU
    rw [this, h2]
def rdO {α : Type} (f : Rs → α × Rs) : Nat → Rs → List α × Rs
  | 0, s => ([], s)
  | k + 1, s => ((f s).1 :: (rdO f k (f s).2).1, (rdO f k (f s).2).2)
theorem rdO_stuck {α : Type} {f : Rs → α × Rs} (hf : ∀ s, s.err ≠ 0 → (f s).2 = s) : ∀ k (s : Rs), s.err ≠ 0 → (rdO f k s).2 = s
  | 0, s, h => rfl
  | k + 1, s, h => by
    show (rdO f k (f s).2).2 = s
    rw [hf s h, rdO_stuck hf k s h]
theorem rdO_succ {α : Type} {f : Rs → α × Rs} (k : Nat) (s : Rs) : (rdO f (k + 1) s).1 = (rdO f k s).1 ++ [(f (rdO f k s).2).1] ∧ (rdO f (k + 1) s).2 = (f (rdO f k s).2).2 := by
  induction k generalizing s with
  | zero => exact ⟨rfl, rfl⟩
  | succ k ih =>
    have h := ih (f s).2
    exact ⟨by show (f s).1 :: (rdO f (k + 1) (f s).2).1 = ((f s).1 :: (rdO f k (f s).2).1) ++ _; rw [h.1]; rfl, by show (rdO f (k + 1) (f s).2).2 = _; rw [h.2]; rfl⟩
theorem rdO_len {α : Type} {f : Rs → α × Rs} : ∀ k (s : Rs), (rdO f k s).1.length = k
  | 0, s => rfl
  | k + 1, s => by show ((f s).1 :: (rdO f k (f s).2).1).length = k + 1; rw [List.length_cons, rdO_len k]
theorem rdO_end {α : Type} {f : Rs → α × Rs} (hf : ∀ s, s.err ≠ 0 → (f s).2 = s) {k m : Nat} (hk : k ≤ m) (s : Rs) (he : (rdO f k s).2.err ≠ 0) : (rdO f m s).2 = (rdO f k s).2 := by
  obtain ⟨j, rfl⟩ : ∃ j, m = k + j := ⟨m - k, by omega⟩
  clear hk
  induction j with
  | zero => rfl
  | succ j ih =>
    rw [show k + (j + 1) = k + j + 1 by omega, (rdO_succ (k + j) s).2, ih, hf _ he]
theorem rdO_back {α : Type} {f : Rs → α × Rs} {ef : α → List Int} {okf : α → Prop} (hf : Can f ef okf) : ∀ k (s : Rs), (∀ c ∈ s.B, c < 256) → s.err = 0 → (rdO f k s).2.err = 0 → s.B = packL ((rdO f k s).1.flatMap ef) ++ (rdO f k s).2.B ∧ (∀ x ∈ (rdO f k s).1, okf x) ∧ ∀ c ∈ (rdO f k s).2.B, c < 256
  | 0, s, h, h0, he => ⟨by simp [rdO, packL], (fun x hx => by cases hx), h⟩
  | k + 1, s, h, h0, he => by
    have he : (rdO f k (f s).2).2.err = 0 := he
    have h1 : (f s).2.err = 0 := by
      rcases Classical.em ((f s).2.err = 0) with h1 | h1
      · exact h1
      · rw [rdO_stuck hf.stuck k _ h1] at he
        exact he
    obtain ⟨e1, e2, e3⟩ := hf.back s h h0 h1
    obtain ⟨e4, e6, e7⟩ := rdO_back hf k _ e3 h1 he
    refine ⟨?_, fun x hx => ?_, e7⟩
    · show s.B = packL (((f s).1 :: (rdO f k (f s).2).1).flatMap ef) ++ (rdO f k (f s).2).2.B
      rw [List.flatMap_cons, packL_append, List.append_assoc, ← e4]
      exact e1
    · rcases List.mem_cons.1 hx with rfl | hx
      · exact e2
      · exact e6 x hx
theorem rdO_pack {α : Type} {f : Rs → α × Rs} {ef : α → List Int} {okf : α → Prop} (hf : Can f ef okf) : ∀ (l : List α), (∀ x ∈ l, okf x) → ∀ r, rdO f l.length ⟨packL (l.flatMap ef) ++ r, 0⟩ = (l, ⟨r, 0⟩)
  | [], _, r => by simp [rdO, packL]
  | x :: l, h, r => by
    have e := rdO_pack hf l (fun y hy => h y (by simp [hy])) r
    have e2 := hf.pack x (packL (l.flatMap ef) ++ r) (h x (by simp))
    rw [List.flatMap_cons, packL_append, List.append_assoc, List.length_cons, rdO, e2]
    simp only [e]
def rdLs {α : Type} (mx : Int) (f : Rs → α × Rs) (s : Rs) : List α × Rs := rdO f (rdI 0 mx s).1.toNat (rdI 0 mx s).2
theorem rdI_stuck {lo hi : Int} {s : Rs} (h : s.err ≠ 0) : (rdI lo hi s).2 = s := by
  unfold rdI
  rw [if_pos h]
def lenc {α : Type} (ef : α → List Int) (l : List α) : List Int := (l.length : Int) :: l.flatMap ef
theorem Can.list {α : Type} {f : Rs → α × Rs} {ef : α → List Int} {okf : α → Prop} (hf : Can f ef okf) {mx : Int} (h0 : 0 ≤ mx) (h1 : mx ≤ 100000) : Can (rdLs mx f) (lenc ef) (fun l => (l.length : Int) ≤ mx ∧ ∀ x ∈ l, okf x) := by
  refine ⟨fun s h => ?_, fun s h hz he => ?_, fun l r h => ?_⟩
  · skip
    unfold rdLs
    rw [rdI_stuck h]
    exact rdO_stuck hf.stuck _ _ h
  · skip
    have he : (rdO f (rdI 0 mx s).1.toNat (rdI 0 mx s).2).2.err = 0 := he
    have h2 : (rdI 0 mx s).2.err = 0 := by
      rcases Classical.em ((rdI 0 mx s).2.err = 0) with h2 | h2
      · exact h2
      · rw [rdO_stuck hf.stuck _ _ h2] at he
        exact he
    obtain ⟨e1, e2, _⟩ := rdI_back (lo := 0) (hi := mx) h (n := (rdI 0 mx s).1) (s' := (rdI 0 mx s).2) rfl h2 hz
    have e3 : ∀ c ∈ (rdI 0 mx s).2.B, c < 256 := fun c hc => h c (by rw [e1]; exact List.mem_append_right _ hc)
    obtain ⟨e4, e6, e7⟩ := rdO_back hf (rdI 0 mx s).1.toNat (rdI 0 mx s).2 e3 h2 he
    have hw := rdI_within (lo := 0) (hi := mx) s (by decide) h0
    have e8 : ((rdO f (rdI 0 mx s).1.toNat (rdI 0 mx s).2).1.length : Int) = (rdI 0 mx s).1 := by rw [rdO_len]; omega
    refine ⟨?_, ⟨?_, e6⟩, e7⟩
    · show s.B = packL (lenc ef (rdO f (rdI 0 mx s).1.toNat (rdI 0 mx s).2).1) ++ (rdO f (rdI 0 mx s).1.toNat (rdI 0 mx s).2).2.B
      unfold lenc
      rw [packL_cons, e8, List.append_assoc, ← e4]
      exact e1
    · show ((rdO f (rdI 0 mx s).1.toNat (rdI 0 mx s).2).1.length : Int) ≤ mx
      rw [e8]
      exact hw.2
  · skip
    have e1 : rdI 0 mx ⟨packI (l.length : Int) ++ (packL (l.flatMap ef) ++ r), 0⟩ = ((l.length : Int), ⟨packL (l.flatMap ef) ++ r, 0⟩) := rdI_pack (by have := h.1; unfold In64p; omega) (by omega) h.1 _
    have e2 := rdO_pack hf l h.2 r
    unfold rdLs lenc
    rw [packL_cons, List.append_assoc, e1]
    simpa using e2
structure Rtn where
  a : Int
  b : Int
  q : Int
  lots : List Lo
def Rtn.nums (x : Rtn) : List Int := rnums x.a x.b x.q x.lots
def Rtn.in64 (x : Rtn) : Prop := In64p x.a ∧ In64p x.b ∧ In64p x.q ∧ ((x.lots.length : Int) ≤ 4096 ∧ ∀ y ∈ x.lots, y.in64)
def Rn.pl (x : Rn) : Rtn := ⟨x.a, x.b, x.q, x.lots⟩
def upLo (p : Int × Int × Int) : Lo := ⟨p.1, p.2.1, p.2.2⟩
def upDb (p : Int × Int × Int × Int × Int) : Db := ⟨p.1, p.2.1, p.2.2.1, p.2.2.2.1, p.2.2.2.2⟩
def upRq (p : Int × Int × Int × List Lo) : Rtn := ⟨p.1, p.2.1, p.2.2.1, p.2.2.2⟩
def rdLo : Rs → Lo × Rs := rdU upLo (rd2 rdM (rd2 rdM rdM))
def rdDb : Rs → Db × Rs := rdU upDb (rd2 rdM (rd2 rdM (rd2 rdM (rd2 rdM rdM))))
def rdRq : Rs → Rtn × Rs := rdU upRq (rd2 rdM (rd2 rdM (rd2 rdM (rdLs 4096 rdLo))))
theorem canLo : Can rdLo Lo.nums Lo.in64 := by
  have h := Can.map (canM.two (canM.two canM)) upLo (fun (y : Lo) => (y.a, y.b, y.q)) (fun _ => rfl) (fun _ => rfl)
  exact h
theorem canDb : Can rdDb Db.nums Db.in64 := by
  have h := Can.map (canM.two (canM.two (canM.two (canM.two canM)))) upDb (fun (y : Db) => (y.a, y.b, y.c, y.d, y.q)) (fun _ => rfl) (fun _ => rfl)
  exact h
theorem canRq : Can rdRq Rtn.nums Rtn.in64 := by
  have h := Can.map (canM.two (canM.two (canM.two (canLo.list (mx := 4096) (by decide) (by decide))))) upRq (fun (y : Rtn) => (y.a, y.b, y.q, y.lots)) (fun _ => rfl) (fun _ => rfl)
  exact h
abbrev Rep4 : Type := Int × List Int × List Db × List Rtn
def rdRep : Rs → Rep4 × Rs := rd2 rdM (rd2 (rdLs 4096 rdM) (rd2 (rdLs 4096 rdDb) (rdLs 4096 rdRq)))
def repQ (x : Rep4) : List Int := [x.1] ++ (lenc (fun x => [x]) x.2.1 ++ (lenc Db.nums x.2.2.1 ++ lenc Rtn.nums x.2.2.2))
def okQ (x : Rep4) : Prop := In64p x.1 ∧ ((x.2.1.length : Int) ≤ 4096 ∧ ∀ y ∈ x.2.1, In64p y) ∧ ((x.2.2.1.length : Int) ≤ 4096 ∧ ∀ y ∈ x.2.2.1, y.in64) ∧ ((x.2.2.2.length : Int) ≤ 4096 ∧ ∀ y ∈ x.2.2.2, y.in64)
theorem canRep : Can rdRep repQ okQ := canM.two ((canM.list (by decide) (by decide)).two ((canDb.list (by decide) (by decide)).two (canRq.list (by decide) (by decide))))
theorem repL_Q (er : Int) (nums : List Int) (debs : List Db) (rets : List Rn) : repL er nums debs rets = repQ (er, nums, debs, rets.map Rn.pl) := by
  have h1 : (rets.map Rn.pl).flatMap Rtn.nums = rets.flatMap Rn.nums := by
    rw [List.flatMap_map]
    rfl
  have h2 : nums.flatMap (fun x => [x]) = nums := by
    induction nums with
    | nil => rfl
    | cons x r ih => rw [List.flatMap_cons, ih]; rfl
  unfold repL repQ lenc
  simp only [List.length_map, h1, h2]
  simp
theorem packI_pos (n : Int) : 0 < (packI n).length := by
  unfold packI
  by_cases h : zz n < 128
  · rw [vb_low h]; exact Nat.one_pos
  · rw [vb_high h]; exact Nat.succ_pos _
theorem packL_ge : ∀ l : List Int, l.length ≤ (packL l).length
  | [] => by simp
  | x :: l => by
    have := packL_ge l
    have := packI_pos x
    rw [packL_cons, List.length_append, List.length_cons]
    omega
end Go.Proofs.Ytpmnjojednbnpaa
end
