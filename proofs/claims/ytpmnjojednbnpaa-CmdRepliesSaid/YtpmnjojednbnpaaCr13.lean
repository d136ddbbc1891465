import Derived.Test.YtpmnjojednbnpaaCr12
section
namespace Go.Proofs.Ytpmnjojednbnpaa
open Go.ChangeShapes Go.WideShapes Go.ChangeAt Go.RowKit
set_option linter.unusedVariables false
set_option linter.unusedSimpArgs false

theorem Sl.belowL {W : Nat} {w w' : World} {A : Option Addr} {xs : List Value} (h : Sl w A xs) (hA : ∀ b o, A = some ⟨b, o, none⟩ → xs ≠ [] → b < W) (hb : Below W w w') : Sl w' A xs := by
  intro hne
  obtain ⟨b, o, e, hc⟩ := h hne
  exact ⟨b, o, e, fun j u hu => (hb.cell (p := ⟨b, o + j, none⟩) (hA b o e hne)).trans (hc j u hu)⟩
def rnums (a b q : Int) (lots : List Lo) : List Int := a :: b :: q :: (lots.length : Int) :: lots.flatMap Lo.nums
set_option maxHeartbeats 8000000 in
set_option maxRecDepth 100000 in
theorem encR_any (W g wb : Nat) (A : Option Addr) (c : Nat) (bs : List Nat) (a b q : Int) (A0 : Option Addr) (cap : Nat) (lots : List Lo) (w : World) (hS : WrS W w g A c bs) (hWs : W ≤ w.heap.size) (hx : w.heap[wb]? = some (.cells #[.pointer (some ⟨g, 0, none⟩)] 59 (0, 0))) (hbl : bs.length ≤ 600000) (ha : In64p a) (hb : In64p b) (hq : In64p q) (hll : lots.length ≤ 100) (h6 : ∀ x ∈ lots, x.in64) (hs : Sl w A0 (rc Lo.cells lots)) (hA : ∀ b o, A0 = some ⟨b, o, none⟩ → lots ≠ [] → b < W) :
    Calls Try.prog 54 #[.agg #[.int .i64 a, .int .i64 b, .int .i64 q, .slice A0 lots.length cap], .pointer (some ⟨wb, 0, none⟩)] w fun e w' => e = .returned (.tuple #[]) ∧ ∃ A' c', Wt W g (ob A bs c) A' c' (bs ++ packL (rnums a b q lots)) w w' := by
  have hal := since_alloc (Below.refl _ w) (.cells #[.int .i64 a, .int .i64 b, .int .i64 q, .slice A0 lots.length cap] 97)
  have hby := heap_alloc_new w (.cells #[.int .i64 a, .int .i64 b, .int .i64 q, .slice A0 lots.length cap] 97)
  have hwl := (Array.getElem?_eq_some_iff.1 hx).1
  have hbx := (hal.block wb hwl).trans hx
  have hS1 := hS.below hal
  have hs1 := hs.below hal
  have HI := Lib.hid (wunitW W g A c bs a b (w.alloc (.cells #[.int .i64 a, .int .i64 b, .int .i64 q, .slice A0 lots.length cap] 97)) hS1 (by omega) ha hb)
  have HW := Lib.hid ((Wt.refl hS).below hal)
  have hrc : rc Lo.cells lots ≠ [] → lots ≠ [] := fun h e => h (by rw [e]; rfl)
  have HK : Hid (∀ V, Chg g (ob A bs c) (w.alloc (.cells #[.int .i64 a, .int .i64 b, .int .i64 q, .slice A0 lots.length cap] 97)) V → V.heap[wb]? = some (.cells #[.pointer (some ⟨g, 0, none⟩)] 59 (0, 0)) ∧ V.heap[w.heap.size]? = some (.cells #[.int .i64 a, .int .i64 b, .int .i64 q, .slice A0 lots.length cap] 97 (0, 0)) ∧ Sl V A0 (rc Lo.cells lots)) := Lib.hid fun V hC =>
    ⟨hS1.keep hC hbx (fun cs t f e => by injection e with _ e2 _; subst e2; decide), hS1.keep hC hby (fun cs t f e => by injection e with _ e2 _; subst e2; decide), hs1.belowL (fun b o e h => hA b o e (hrc h)) (hS1.old (Nat.le_trans hWs hal.size) hC)⟩
  have hl1 : (packL [a, b]).length ≤ 20 := packL_le (l := [a, b]) (fun z hz => by
    rcases List.mem_cons.1 hz with rfl | hz
    · exact ha
    · rw [List.mem_singleton.1 hz]; exact hb)
  have hlq : (packI q).length ≤ 10 := vb_len10 (zz_lt hq)
  have hn1 : (bs ++ packL [a, b]).length ≤ 1000000 := by rw [List.length_append]; omega
  have hn2 : (bs ++ packL [a, b] ++ packI q).length ≤ 700000 := by rw [List.length_append, List.length_append]; omega
  have HT : Hid (bs ++ packL [a, b] ++ packI q ++ packL ((lots.length : Int) :: lots.flatMap Lo.nums) = bs ++ packL (rnums a b q lots)) := Lib.hid (by rw [List.append_assoc, List.append_assoc, show packI q = packL [q] by simp [packL], ← packL_append, ← packL_append]; rfl)
  have HA := Lib.hid hA
  have H6 := Lib.hid h6
  have p0 : w.cell? ⟨wb, 0, none⟩ = some (.pointer (some ⟨g, 0, none⟩)) := (cell_of_row w wb 0 _ _ (0, 0) hx).trans rfl
  clear hal hS hbx hby hS1 hs hs1 hl1 hlq hx hrc hA h6
  go_enter Try.func54, Try.ntmps54
  go_wp2_with fail
  refine HI.out.mono ?_
  rintro e w1 ⟨rfl, A1, c1, h1⟩
  obtain ⟨x1, y1, s1⟩ := HK.out w1 h1.chg
  have p1 : w1.cell? ⟨wb, 0, none⟩ = some (.pointer (some ⟨g, 0, none⟩)) := (cell_of_row w1 wb 0 _ _ (0, 0) x1).trans rfl
  have l1 := (Array.getElem?_eq_some_iff.1 x1).1
  have d2 : w1.cell? ⟨w.heap.size, 2, none⟩ = some (.int .i64 q) := (cell_of_row w1 w.heap.size 2 _ _ (0, 0) y1).trans rfl
  have m1 := (Array.getElem?_eq_some_iff.1 y1).1
  have HI2 := Lib.hid (wint1 W g A1 c1 (bs ++ packL [a, b]) q w1 h1.s hn1 hq)
  have H1 := Lib.hid h1
  clear x1 y1 s1 h1 HI p0 hwl
  go_wp2_with fail
  refine HI2.out.mono ?_
  rintro e w2 ⟨rfl, A2, c3, h2⟩
  have h12 := H1.out.trans h2
  obtain ⟨x2, y2, s2⟩ := HK.out w2 h12.chg
  have p2 : w2.cell? ⟨wb, 0, none⟩ = some (.pointer (some ⟨g, 0, none⟩)) := (cell_of_row w2 wb 0 _ _ (0, 0) x2).trans rfl
  have l2 := (Array.getElem?_eq_some_iff.1 x2).1
  have d3 : w2.cell? ⟨w.heap.size, 3, none⟩ = some (.slice A0 lots.length cap) := (cell_of_row w2 w.heap.size 3 _ _ (0, 0) y2).trans rfl
  have m2 := (Array.getElem?_eq_some_iff.1 y2).1
  have HI3 := Lib.hid (wputL W g wb A2 c3 (bs ++ packL [a, b] ++ packI q) A0 cap lots w2 h12.s x2 hll hn2 H6.out s2 (fun b o e hne => by
    have h3 := HA.out b o e hne
    have h4 := h12.s.ge
    exact ⟨by omega, fun e2 => by have := h12.s.row b e2; omega⟩))
  have H2 := Lib.hid (HW.out.trans h12)
  clear x2 y2 s2 h2 h12 HI2 H1 HK p1 l1 d2 m1
  go_wp2_with fail
  refine HI3.out.mono ?_
  rintro e w3 ⟨rfl, A3, c4, h3⟩
  have hf := H2.out.trans h3
  rw [HT.out] at hf
  go_wp2_with fail
  go_end0
  exact ⟨rfl, A3, c4, hf⟩
end Go.Proofs.Ytpmnjojednbnpaa
end
section
namespace Go.Proofs.Ytpmnjojednbnpaa
open Go.ChangeShapes Go.WideShapes Go.ChangeAt Go.RowKit
set_option linter.unusedVariables false
set_option linter.unusedSimpArgs false

structure Rn where
  a : Int
  b : Int
  q : Int
  A : Option Addr
  c : Nat
  lots : List Lo
def Rn.cells (x : Rn) : List Value := [.int .i64 x.a, .int .i64 x.b, .int .i64 x.q, .slice x.A x.lots.length x.c]
def Rn.nums (x : Rn) : List Int := rnums x.a x.b x.q x.lots
structure Rn.ok (W : Nat) (w : World) (x : Rn) : Prop where
  ia : In64p x.a
  ib : In64p x.b
  iq : In64p x.q
  ll : x.lots.length ≤ 100
  il : ∀ y ∈ x.lots, y.in64
  sl : Sl w x.A (rc Lo.cells x.lots)
  lo : ∀ b o, x.A = some ⟨b, o, none⟩ → x.lots ≠ [] → b < W
theorem Rn.ok.below {W : Nat} {w w' : World} {x : Rn} (h : x.ok W w) (hb : Below W w w') : x.ok W w' :=
  ⟨h.ia, h.ib, h.iq, h.ll, h.il, h.sl.belowL (fun b o e hne => h.lo b o e (fun e2 => hne (by rw [e2]; rfl))) hb, h.lo⟩
theorem Rn.len {W : Nat} {w : World} {x : Rn} (h : x.ok W w) : (packL x.nums).length ≤ 3040 := by
  have h1 := Lo.encl h.il
  have h2 : ∀ z : Int, In64p z → (packI z).length ≤ 10 := fun z hz => vb_len10 (zz_lt hz)
  have ha := h2 _ h.ia
  have hb := h2 _ h.ib
  have hq := h2 _ h.iq
  have hl := h2 (x.lots.length : Int) (by have := h.ll; unfold In64p; omega)
  have := h.ll
  unfold Rn.nums rnums
  rw [packL_cons, packL_cons, packL_cons, packL_cons, List.length_append, List.length_append, List.length_append, List.length_append]
  omega
theorem Rn.lens {W : Nat} {w : World} : ∀ {l : List Rn}, (∀ x ∈ l, x.ok W w) → (packL (l.flatMap Rn.nums)).length ≤ 3040 * l.length
  | [], _ => by simp [packL]
  | x :: r, h => by
    rw [List.flatMap_cons, packL_append, List.length_append, List.length_cons]
    have h1 := Rn.len (h x (by simp))
    have h2 := Rn.lens (l := r) (fun y hy => h y (by simp [hy]))
    omega
set_option maxHeartbeats 16000000 in
set_option maxRecDepth 100000 in
theorem wputR (W g wb : Nat) (A : Option Addr) (c : Nat) (bs : List Nat) (A0 : Option Addr) (cap : Nat) (l : List Rn) (w : World) (hS : WrS W w g A c bs) (hWs : W ≤ w.heap.size) (hx : w.heap[wb]? = some (.cells #[.pointer (some ⟨g, 0, none⟩)] 59 (0, 0))) (hl : l.length ≤ 100) (hbl : bs.length ≤ 200000) (h6 : ∀ x ∈ l, x.ok W w) (hs : Sl w A0 (rc Rn.cells l)) (hA : ∀ b o, A0 = some ⟨b, o, none⟩ → l ≠ [] → b < W) :
    Calls Try.prog 53 #[.agg #[.pointer (some ⟨g, 0, none⟩)], .slice A0 l.length cap, .func (.func 54) #[] #[.pointer (some ⟨wb, 0, none⟩)]] w fun e w' => e = .returned (.tuple #[]) ∧ ∃ A' c', Wt W g (ob A bs c) A' c' (bs ++ packL ((l.length : Int) :: l.flatMap Rn.nums)) w w' := by
  have hb0 : Below w.heap.size w ((w.alloc (.cells #[.pointer (some ⟨g, 0, none⟩)] 59)).alloc (.cells #[.int .i64 (l.length : Int)] 3)) := since_alloc (since_alloc (Below.refl _ w) (.cells #[.pointer (some ⟨g, 0, none⟩)] 59)) (.cells #[.int .i64 (l.length : Int)] 3)
  have hS1 := hS.below hb0
  have hx1 := (hb0.block wb (Array.getElem?_eq_some_iff.1 hx).1).trans hx
  have hlt := hS.wr.lt
  have hW1s : W ≤ ((w.alloc (.cells #[.pointer (some ⟨g, 0, none⟩)] 59)).alloc (.cells #[.int .i64 (l.length : Int)] 3)).heap.size := Nat.le_trans hWs hb0.size
  have HS1 := Lib.hid hS1
  have HX1 := Lib.hid hx1
  have HT0 : Hid (∀ A' c' bs' V, Wt W g (ob A bs c) A' c' bs' ((w.alloc (.cells #[.pointer (some ⟨g, 0, none⟩)] 59)).alloc (.cells #[.int .i64 (l.length : Int)] 3)) V → Wt W g (ob A bs c) A' c' bs' w V) := Lib.hid fun A' c' bs' V h => ((Wt.refl hS).below hb0).trans h
  have HEL : Hid (∀ V, Chg g (ob A bs c) ((w.alloc (.cells #[.pointer (some ⟨g, 0, none⟩)] 59)).alloc (.cells #[.int .i64 (l.length : Int)] 3)) V → (∀ k, (hk : k < l.length) → ∃ b o, A0 = some ⟨b, o, none⟩ ∧ (V.cell? ⟨b, o + k * 4, none⟩ = some (.int .i64 l[k].a) ∧ V.cell? ⟨b, o + k * 4 + 1, none⟩ = some (.int .i64 l[k].b) ∧ V.cell? ⟨b, o + k * 4 + 2, none⟩ = some (.int .i64 l[k].q) ∧ V.cell? ⟨b, o + k * 4 + 3, none⟩ = some (.slice l[k].A l[k].lots.length l[k].c)) ∧ l[k].ok W V) ∧ W ≤ V.heap.size) := Lib.hid fun V hC => by
    have hB : Below W w V := (hb0.mono hWs).trans (hS1.old hW1s hC)
    refine ⟨fun k hk => ?_, Nat.le_trans hW1s hC.size⟩
    obtain ⟨b, o, e, hbw, hc⟩ := Sl.elem (m := 4) (fun x => rfl) (by decide) hs hk
    have hbW := hA b o e (fun e => by subst e; simp at hk)
    have hk1 : ∀ i u, (Rn.cells l[k])[i]? = some u → V.cell? ⟨b, o + k * 4 + i, none⟩ = some u := fun i u hu => (hB.cell (p := ⟨b, o + k * 4 + i, none⟩) hbW).trans (hc i u hu)
    exact ⟨b, o, e, ⟨hk1 0 _ rfl, hk1 1 _ rfl, hk1 2 _ rfl, hk1 3 _ rfl⟩, (h6 _ (List.getElem_mem hk)).below hB⟩
  have HPL : Hid (∀ k, k ≤ l.length → (packL ((l.length : Int) :: (l.take k).flatMap Rn.nums)).length ≤ 10 + 3040 * k) := Lib.hid fun k hk => by
    have h1 := Rn.lens (l := l.take k) (fun x hx => h6 x (List.mem_of_mem_take hx))
    rw [List.length_take, Nat.min_eq_left hk] at h1
    rw [packL_cons, List.length_append]
    have h2 : (packI (l.length : Int)).length ≤ 10 := vb_len10 (zz_lt (n := (l.length : Int)) (by unfold In64p; omega))
    omega
  have HIN := Lib.hid (wintsW W g A c bs (some ⟨w.heap.size + 1, 0, none⟩) 1 [(l.length : Int)] ((w.alloc (.cells #[.pointer (some ⟨g, 0, none⟩)] 59)).alloc (.cells #[.int .i64 (l.length : Int)] 3)) hS1 (by simp) (by simp; omega) (fun x hx => by rw [List.mem_singleton.1 hx]; unfold In64p; omega) (Sl.new1 _ _ _ _) (fun b o e _ => by
    injection e with e
    injection e with e _
    subst e
    exact ⟨by omega, fun e2 => own_newB hS.wr.own (Nat.le_succ _) e2⟩))
  clear hs h6 hS hS1 hb0 hx hx1 hA hW1s
  go_enter Try.func53, Try.ntmps53
  go_wp2_with fail
  refine HIN.out.mono ?_
  rintro e w2 ⟨rfl, A1, c1, hW1⟩
  have HW0 := Lib.hid hW1
  generalize ((w.alloc (.cells #[.pointer (some ⟨g, 0, none⟩)] 59)).alloc (.cells #[.int .i64 (l.length : Int)] 3)) = W1 at *
  clear HIN hW1
  go_wp2_with fail
  go_loopw [15] (fun i wr => ∃ (k : Nat) (A2 : Option Addr) (c2 : Nat), k ≤ l.length ∧ i = .int .i64 k ∧ Wt W g (ob A bs c) A2 c2 (bs ++ packL ((l.length : Int) :: (l.take k).flatMap Rn.nums)) W1 wr) (fun i _ => l.length - (intOf i).toNat)
  case atStart => exact ⟨0, A1, c1, by omega, rfl, by simpa using HW0.out⟩
  case round =>
    obtain ⟨k, A2, c2, hk, rfl, hW⟩ := hrel
    by_cases hlk : k < l.length
    · have hlk1 : (k : Int) < (l.length : Int) := by omega
      have hk0 : (0 : Int) ≤ (k : Int) := by omega
      obtain ⟨hel, hWr⟩ := HEL.out wr hW.chg
      obtain ⟨b, o, hA0, hce, hok⟩ := hel k hlk
      have hbox := HS1.out.keep hW.chg HX1.out (fun cs t f e => by injection e with _ e2 _; subst e2; decide)
      have hT : packL ((l.length : Int) :: (l.take (k + 1)).flatMap Rn.nums) = packL ((l.length : Int) :: (l.take k).flatMap Rn.nums) ++ packL l[k].nums := by
        rw [← packL_append, take_snoc l k hlk, List.flatMap_append]
        simp
      have hpk := HPL.out k hk
      obtain ⟨x, hxe⟩ : ∃ x, l[k] = x := ⟨_, rfl⟩
      rw [hxe] at hce hT hok
      obtain ⟨va, vb, vq, vA, vc, vl⟩ := x
      simp only at hce
      obtain ⟨ha, hb, hq, hsl⟩ := hce
      obtain ⟨ia, ib, iq, ll, il, sl, lo⟩ := hok
      simp only at ia ib iq ll il sl lo
      have hal := since_alloc (Below.refl _ wr) (.cells #[.int .i64 va, .int .i64 vb, .int .i64 vq, .slice vA vl.length vc] 97)
      have HI := Lib.hid (encR_any W g wb A2 c2 (bs ++ packL ((l.length : Int) :: (l.take k).flatMap Rn.nums)) va vb vq vA vc vl (wr.alloc (.cells #[.int .i64 va, .int .i64 vb, .int .i64 vq, .slice vA vl.length vc] 97)) (hW.s.below hal) (Nat.le_trans hWr hal.size) ((hal.block wb (Array.getElem?_eq_some_iff.1 hbox).1).trans hbox) (by rw [List.length_append]; omega) ia ib iq ll il (sl.below hal) lo)
      have HT := Lib.hid hT
      have HW := Lib.hid (hW.below hal)
      subst hA0
      clear hT hxe ia ib iq ll il sl lo hpk hbox hW hal hel hWr
      go_wp2_with (first | (go_at_call 54; refine HI.out.mono ?_; rintro e w2 ⟨rfl, A3, c3, hW3⟩) | fail)
      have hWN := HW.out.trans hW3
      rw [List.append_assoc] at hWN
      have hT2 : packL ((l.length : Int) :: (l.take (k + 1)).flatMap Rn.nums) = packL ((l.length : Int) :: (l.take k).flatMap Rn.nums) ++ packL (rnums va vb vq vl) := HT.out
      rw [← hT2] at hWN
      clear hW3 HI hT2
      go_roundw
      case rel => exact ⟨k + 1, A3, c3, by omega, by go_num, hWN⟩
      case measure => simp [intOf]; omega
    · obtain rfl : k = l.length := by omega
      rw [List.take_length] at hW
      go_wp2_with fail
      go_end0
      exact ⟨rfl, A2, c2, HT0.out _ _ _ _ hW⟩
end Go.Proofs.Ytpmnjojednbnpaa
end
