import Derived.Test.YtpmnjojednbnpaaCr11
section
namespace Go.Proofs.Ytpmnjojednbnpaa
open Go.ChangeShapes Go.WideShapes Go.ChangeAt Go.RowKit
set_option linter.unusedVariables false
set_option linter.unusedSimpArgs false

theorem wints2 (W g : Nat) (A : Option Addr) (c : Nat) (bs : List Nat) (a b : Int) (w : World) (hS : WrS W w g A c bs) (hbl : bs.length ≤ 900000) (ha : In64p a) (hb : In64p b) :
    Calls Try.prog 25 #[.agg #[.pointer (some ⟨g, 0, none⟩)], .slice (some ⟨w.heap.size, 0, none⟩) 2 2] (w.alloc (.cells #[.int .i64 a, .int .i64 b] 3)) fun e w' => e = .returned (.tuple #[]) ∧ ∃ A' c', Wt W g (ob A bs c) A' c' (bs ++ packL [a, b]) w w' := by
  have hb1 := since_alloc (Below.refl _ w) (.cells #[.int .i64 a, .int .i64 b] 3)
  have hlt := hS.wr.lt
  have h := wintsW W g A c bs (some ⟨w.heap.size, 0, none⟩) 2 [a, b] (w.alloc (.cells #[.int .i64 a, .int .i64 b] 3)) (hS.below hb1) (by simp) (by simp; omega) (fun x hx => by
    rcases List.mem_cons.1 hx with rfl | hx
    · exact ha
    · rw [List.mem_singleton.1 hx]; exact hb) (Sl.new_ _ _ _) (fun b o e _ => by
    injection e with e
    injection e with e _
    subst e
    exact ⟨by omega, fun e2 => own_newB hS.wr.own (Nat.le_refl _) e2⟩)
  refine h.mono ?_
  rintro e w' ⟨rfl, A', c', hw⟩
  exact ⟨rfl, A', c', ((Wt.refl hS).below hb1).trans hw⟩
set_option maxHeartbeats 4000000 in
set_option maxRecDepth 100000 in
theorem wunitW (W g : Nat) (A : Option Addr) (c : Nat) (bs : List Nat) (a b : Int) (w : World) (hS : WrS W w g A c bs) (hbl : bs.length ≤ 900000) (ha : In64p a) (hb : In64p b) :
    Calls Try.prog 52 #[.agg #[.pointer (some ⟨g, 0, none⟩)], .agg #[.int .i64 a, .int .i64 b]] w fun e w' => e = .returned (.tuple #[]) ∧ ∃ A' c', Wt W g (ob A bs c) A' c' (bs ++ packL [a, b]) w w' := by
  have hal := since_alloc (since_alloc (Below.refl _ w) (.cells #[.pointer (some ⟨g, 0, none⟩)] 59)) (.cells #[.int .i64 a, .int .i64 b] 23)
  have hi := wints2 W g A c bs a b ((w.alloc (.cells #[.pointer (some ⟨g, 0, none⟩)] 59)).alloc (.cells #[.int .i64 a, .int .i64 b] 23)) (hS.below hal) hbl ha hb
  simp only [World.size_alloc] at hi
  have HI := Lib.hid hi
  clear hi
  have HW := Lib.hid ((Wt.refl hS).below hal)
  clear hal hS
  go_enter Try.func52, Try.ntmps52
  go_wp2_with fail
  refine HI.out.mono ?_
  rintro e w1 ⟨rfl, A', c', h⟩
  go_wp2_with fail
  go_end0
  exact ⟨rfl, A', c', HW.out.trans h⟩
set_option maxHeartbeats 4000000 in
set_option maxRecDepth 100000 in
theorem wlotW (W g : Nat) (A : Option Addr) (c : Nat) (bs : List Nat) (a b q : Int) (w : World) (hS : WrS W w g A c bs) (hbl : bs.length ≤ 900000) (ha : In64p a) (hb : In64p b) (hq : In64p q) :
    Calls Try.prog 56 #[.agg #[.pointer (some ⟨g, 0, none⟩)], .agg #[.int .i64 a, .int .i64 b, .int .i64 q]] w fun e w' => e = .returned (.tuple #[]) ∧ ∃ A' c', Wt W g (ob A bs c) A' c' (bs ++ packL [a, b, q]) w w' := by
  have hal := since_alloc (since_alloc (Below.refl _ w) (.cells #[.pointer (some ⟨g, 0, none⟩)] 59)) (.cells #[.int .i64 a, .int .i64 b, .int .i64 q] 105)
  have hbx := (since_alloc (Below.refl _ (w.alloc (.cells #[.pointer (some ⟨g, 0, none⟩)] 59))) (.cells #[.int .i64 a, .int .i64 b, .int .i64 q] 105)).block w.heap.size (by rw [World.size_alloc]; omega)
  have hbx := hbx.trans (heap_alloc_new w (.cells #[.pointer (some ⟨g, 0, none⟩)] 59))
  have hby := heap_alloc_new (w.alloc (.cells #[.pointer (some ⟨g, 0, none⟩)] 59)) (.cells #[.int .i64 a, .int .i64 b, .int .i64 q] 105)
  rw [World.size_alloc] at hby
  have hS1 := hS.below hal
  have hi := wints2 W g A c bs a b ((w.alloc (.cells #[.pointer (some ⟨g, 0, none⟩)] 59)).alloc (.cells #[.int .i64 a, .int .i64 b, .int .i64 q] 105)) hS1 hbl ha hb
  simp only [World.size_alloc] at hi
  have HI := Lib.hid hi
  clear hi
  have HW := Lib.hid ((Wt.refl hS).below hal)
  have HK : Hid (∀ V, Chg g (ob A bs c) ((w.alloc (.cells #[.pointer (some ⟨g, 0, none⟩)] 59)).alloc (.cells #[.int .i64 a, .int .i64 b, .int .i64 q] 105)) V → V.cell? ⟨w.heap.size, 0, none⟩ = some (.pointer (some ⟨g, 0, none⟩)) ∧ w.heap.size < V.heap.size ∧ V.cell? ⟨w.heap.size + 1, 2, none⟩ = some (.int .i64 q) ∧ w.heap.size + 1 < V.heap.size) := Lib.hid fun V hC => by
    have h1 := hS1.keep hC hbx (fun cs t f e => by injection e with _ e2 _; subst e2; decide)
    have h2 := hS1.keep hC hby (fun cs t f e => by injection e with _ e2 _; subst e2; decide)
    exact ⟨(cell_of_row V w.heap.size 0 _ _ (0, 0) h1).trans rfl, (Array.getElem?_eq_some_iff.1 h1).1, (cell_of_row V (w.heap.size + 1) 2 _ _ (0, 0) h2).trans rfl, (Array.getElem?_eq_some_iff.1 h2).1⟩
  have hl2 : (packL [a, b]).length ≤ 20 := packL_le (l := [a, b]) (fun x hx => by
    rcases List.mem_cons.1 hx with rfl | hx
    · exact ha
    · rw [List.mem_singleton.1 hx]; exact hb)
  have hbl2 : (bs ++ packL [a, b]).length ≤ 1000000 := by rw [List.length_append]; omega
  have HT : Hid (bs ++ packL [a, b] ++ packI q = bs ++ packL [a, b, q]) := Lib.hid (by rw [List.append_assoc, show packI q = packL [q] by simp [packL], ← packL_append]; rfl)
  clear hal hS hbx hby hS1 hl2
  go_enter Try.func56, Try.ntmps56
  go_wp2_with fail
  refine HI.out.mono ?_
  rintro e w1 ⟨rfl, A', c', h⟩
  obtain ⟨k0, l0, k1, l1⟩ := HK.out w1 h.chg
  have HI2 := Lib.hid (wint1 W g A' c' (bs ++ packL [a, b]) q w1 h.s hbl2 hq)
  have HW1 := Lib.hid (HW.out.trans h)
  clear h HI HW HK
  go_wp2_with fail
  refine HI2.out.mono ?_
  rintro e w2 ⟨rfl, A2, c2, h2⟩
  have hf := HW1.out.trans h2
  rw [HT.out] at hf
  go_wp2_with fail
  go_end0
  exact ⟨rfl, A2, c2, hf⟩
end Go.Proofs.Ytpmnjojednbnpaa
end
section
namespace Go.Proofs.Ytpmnjojednbnpaa
open Go.ChangeShapes Go.WideShapes Go.ChangeAt Go.RowKit
set_option linter.unusedVariables false
set_option linter.unusedSimpArgs false

set_option maxHeartbeats 4000000 in
set_option maxRecDepth 100000 in
theorem encD_any (W g wb : Nat) (A : Option Addr) (c : Nat) (bs : List Nat) (a b c2 d q : Int) (w : World) (hS : WrS W w g A c bs) (hx : w.heap[wb]? = some (.cells #[.pointer (some ⟨g, 0, none⟩)] 59 (0, 0))) (hbl : bs.length ≤ 800000) (ha : In64p a) (hb : In64p b) (hc : In64p c2) (hd : In64p d) (hq : In64p q) :
    Calls Try.prog 51 #[.agg #[.int .i64 a, .int .i64 b, .int .i64 c2, .int .i64 d, .int .i64 q], .pointer (some ⟨wb, 0, none⟩)] w fun e w' => e = .returned (.tuple #[]) ∧ ∃ A' c', Wt W g (ob A bs c) A' c' (bs ++ packL [a, b, c2, d, q]) w w' := by
  have hal := since_alloc (Below.refl _ w) (.cells #[.int .i64 a, .int .i64 b, .int .i64 c2, .int .i64 d, .int .i64 q] 94)
  have hby := heap_alloc_new w (.cells #[.int .i64 a, .int .i64 b, .int .i64 c2, .int .i64 d, .int .i64 q] 94)
  have hwl := (Array.getElem?_eq_some_iff.1 hx).1
  have hbx := (hal.block wb hwl).trans hx
  have hS1 := hS.below hal
  have HI := Lib.hid (wunitW W g A c bs a b (w.alloc (.cells #[.int .i64 a, .int .i64 b, .int .i64 c2, .int .i64 d, .int .i64 q] 94)) hS1 (by omega) ha hb)
  have HW := Lib.hid ((Wt.refl hS).below hal)
  have HK : Hid (∀ V, Chg g (ob A bs c) (w.alloc (.cells #[.int .i64 a, .int .i64 b, .int .i64 c2, .int .i64 d, .int .i64 q] 94)) V → V.heap[wb]? = some (.cells #[.pointer (some ⟨g, 0, none⟩)] 59 (0, 0)) ∧ V.heap[w.heap.size]? = some (.cells #[.int .i64 a, .int .i64 b, .int .i64 c2, .int .i64 d, .int .i64 q] 94 (0, 0))) := Lib.hid fun V hC => ⟨hS1.keep hC hbx (fun cs t f e => by injection e with _ e2 _; subst e2; decide), hS1.keep hC hby (fun cs t f e => by injection e with _ e2 _; subst e2; decide)⟩
  have hp2 : ∀ x y : Int, In64p x → In64p y → (packL [x, y]).length ≤ 20 := fun x y hx hy => packL_le (l := [x, y]) (fun z hz => by
    rcases List.mem_cons.1 hz with rfl | hz
    · exact hx
    · rw [List.mem_singleton.1 hz]; exact hy)
  have hl1 := hp2 a b ha hb
  have hl2 := hp2 c2 d hc hd
  have hn1 : (bs ++ packL [a, b]).length ≤ 900000 := by rw [List.length_append]; omega
  have hn2 : (bs ++ packL [a, b] ++ packL [c2, d]).length ≤ 1000000 := by rw [List.length_append, List.length_append]; omega
  have HT : Hid (bs ++ packL [a, b] ++ packL [c2, d] ++ packI q = bs ++ packL [a, b, c2, d, q]) := Lib.hid (by rw [List.append_assoc, List.append_assoc, show packI q = packL [q] by simp [packL], ← packL_append, ← packL_append]; rfl)
  have p0 : w.cell? ⟨wb, 0, none⟩ = some (.pointer (some ⟨g, 0, none⟩)) := (cell_of_row w wb 0 _ _ (0, 0) hx).trans rfl
  clear hal hS hbx hby hS1 hl1 hl2 hp2 hx
  go_enter Try.func51, Try.ntmps51
  go_wp2_with fail
  refine HI.out.mono ?_
  rintro e w1 ⟨rfl, A1, c1, h1⟩
  obtain ⟨x1, y1⟩ := HK.out w1 h1.chg
  have p1 : w1.cell? ⟨wb, 0, none⟩ = some (.pointer (some ⟨g, 0, none⟩)) := (cell_of_row w1 wb 0 _ _ (0, 0) x1).trans rfl
  have l1 := (Array.getElem?_eq_some_iff.1 x1).1
  have d2 : w1.cell? ⟨w.heap.size, 2, none⟩ = some (.int .i64 c2) := (cell_of_row w1 w.heap.size 2 _ _ (0, 0) y1).trans rfl
  have d3 : w1.cell? ⟨w.heap.size, 3, none⟩ = some (.int .i64 d) := (cell_of_row w1 w.heap.size 3 _ _ (0, 0) y1).trans rfl
  have m1 := (Array.getElem?_eq_some_iff.1 y1).1
  have HI2 := Lib.hid (wunitW W g A1 c1 (bs ++ packL [a, b]) c2 d w1 h1.s hn1 hc hd)
  have H1 := Lib.hid h1
  clear x1 y1 h1 HI p0 hwl
  go_wp2_with fail
  refine HI2.out.mono ?_
  rintro e w2 ⟨rfl, A2, c3, h2⟩
  have h12 := H1.out.trans h2
  obtain ⟨x2, y2⟩ := HK.out w2 h12.chg
  have p2 : w2.cell? ⟨wb, 0, none⟩ = some (.pointer (some ⟨g, 0, none⟩)) := (cell_of_row w2 wb 0 _ _ (0, 0) x2).trans rfl
  have l2 := (Array.getElem?_eq_some_iff.1 x2).1
  have d4 : w2.cell? ⟨w.heap.size, 4, none⟩ = some (.int .i64 q) := (cell_of_row w2 w.heap.size 4 _ _ (0, 0) y2).trans rfl
  have m2 := (Array.getElem?_eq_some_iff.1 y2).1
  have HI3 := Lib.hid (wint1 W g A2 c3 (bs ++ packL [a, b] ++ packL [c2, d]) q w2 h12.s hn2 hq)
  have H2 := Lib.hid (HW.out.trans h12)
  clear x2 y2 h2 h12 HI2 H1 HK p1 l1 d2 d3 m1
  go_wp2_with fail
  refine HI3.out.mono ?_
  rintro e w3 ⟨rfl, A3, c4, h3⟩
  have hf := H2.out.trans h3
  rw [HT.out] at hf
  go_wp2_with fail
  go_end0
  exact ⟨rfl, A3, c4, hf⟩
structure Db where
  a : Int
  b : Int
  c : Int
  d : Int
  q : Int
def Db.cells (x : Db) : List Value := [.int .i64 x.a, .int .i64 x.b, .int .i64 x.c, .int .i64 x.d, .int .i64 x.q]
def Db.nums (x : Db) : List Int := [x.a, x.b, x.c, x.d, x.q]
def Db.in64 (x : Db) : Prop := In64p x.a ∧ In64p x.b ∧ In64p x.c ∧ In64p x.d ∧ In64p x.q
structure Lo where
  a : Int
  b : Int
  q : Int
def Lo.cells (x : Lo) : List Value := [.int .i64 x.a, .int .i64 x.b, .int .i64 x.q]
def Lo.nums (x : Lo) : List Int := [x.a, x.b, x.q]
def Lo.in64 (x : Lo) : Prop := In64p x.a ∧ In64p x.b ∧ In64p x.q
theorem Db.encl {l : List Db} (h : ∀ x ∈ l, x.in64) : (packL (l.flatMap Db.nums)).length ≤ 50 * l.length := by
  have h1 := packL_le (l := l.flatMap Db.nums) (fun z hz => by
    obtain ⟨x, hx, hz⟩ := List.mem_flatMap.1 hz
    have := h x hx
    unfold Db.in64 at this
    simp only [Db.nums, List.mem_cons, List.not_mem_nil, or_false] at hz
    rcases hz with rfl | rfl | rfl | rfl | rfl <;> simp only [this])
  have h2 : (l.flatMap Db.nums).length = 5 * l.length := by
    induction l with
    | nil => rfl
    | cons x r ih =>
      rw [List.flatMap_cons, List.length_append, List.length_cons, ih (fun y hy => h y (by simp [hy])) (packL_le (fun z hz => by
        obtain ⟨x, hx, hz⟩ := List.mem_flatMap.1 hz
        have := h x (by simp [hx])
        unfold Db.in64 at this
        simp only [Db.nums, List.mem_cons, List.not_mem_nil, or_false] at hz
        rcases hz with rfl | rfl | rfl | rfl | rfl <;> simp only [this]))]
      simp [Db.nums]; omega
  omega
set_option maxHeartbeats 16000000 in
set_option maxRecDepth 100000 in
theorem wputD (W g wb : Nat) (A : Option Addr) (c : Nat) (bs : List Nat) (A0 : Option Addr) (cap : Nat) (l : List Db) (w : World) (hS : WrS W w g A c bs) (hx : w.heap[wb]? = some (.cells #[.pointer (some ⟨g, 0, none⟩)] 59 (0, 0))) (hl : l.length ≤ 100) (hbl : bs.length ≤ 700000) (h6 : ∀ x ∈ l, x.in64) (hs : Sl w A0 (rc Db.cells l))
    (hf : ∀ b o, A0 = some ⟨b, o, none⟩ → l ≠ [] → b ≠ g ∧ ob A bs c ≠ some b) :
    Calls Try.prog 50 #[.agg #[.pointer (some ⟨g, 0, none⟩)], .slice A0 l.length cap, .func (.func 51) #[] #[.pointer (some ⟨wb, 0, none⟩)]] w fun e w' => e = .returned (.tuple #[]) ∧ ∃ A' c', Wt W g (ob A bs c) A' c' (bs ++ packL ((l.length : Int) :: l.flatMap Db.nums)) w w' := by
  have hb0 : Below w.heap.size w ((w.alloc (.cells #[.pointer (some ⟨g, 0, none⟩)] 59)).alloc (.cells #[.int .i64 (l.length : Int)] 3)) := since_alloc (since_alloc (Below.refl _ w) (.cells #[.pointer (some ⟨g, 0, none⟩)] 59)) (.cells #[.int .i64 (l.length : Int)] 3)
  have hS1 := hS.below hb0
  have hs1 := hs.below hb0
  have hx1 := (hb0.block wb (Array.getElem?_eq_some_iff.1 hx).1).trans hx
  have hlt := hS.wr.lt
  have H6 := Lib.hid h6
  have HS1 := Lib.hid hS1
  have HX1 := Lib.hid hx1
  have HT0 : Hid (∀ A' c' bs' V, Wt W g (ob A bs c) A' c' bs' ((w.alloc (.cells #[.pointer (some ⟨g, 0, none⟩)] 59)).alloc (.cells #[.int .i64 (l.length : Int)] 3)) V → Wt W g (ob A bs c) A' c' bs' w V) := Lib.hid fun A' c' bs' V h => ((Wt.refl hS).below hb0).trans h
  have HEL : Hid (∀ V, Chg g (ob A bs c) ((w.alloc (.cells #[.pointer (some ⟨g, 0, none⟩)] 59)).alloc (.cells #[.int .i64 (l.length : Int)] 3)) V → ∀ k, (hk : k < l.length) → ∃ b o, A0 = some ⟨b, o, none⟩ ∧ V.cell? ⟨b, o + k * 5, none⟩ = some (.int .i64 l[k].a) ∧ V.cell? ⟨b, o + k * 5 + 1, none⟩ = some (.int .i64 l[k].b) ∧ V.cell? ⟨b, o + k * 5 + 2, none⟩ = some (.int .i64 l[k].c) ∧ V.cell? ⟨b, o + k * 5 + 3, none⟩ = some (.int .i64 l[k].d) ∧ V.cell? ⟨b, o + k * 5 + 4, none⟩ = some (.int .i64 l[k].q)) := Lib.hid fun V hC k hk => by
    obtain ⟨b, o, hA0, hbw, hc⟩ := Sl.elem (m := 5) (fun x => rfl) (by decide) hs1 hk
    obtain ⟨hbg, hbr⟩ := hf b o hA0 (fun e => by subst e; simp at hk)
    have hk1 : ∀ i u, (Db.cells l[k])[i]? = some u → V.cell? ⟨b, o + k * 5 + i, none⟩ = some u := fun i u hu => by
      rw [World.cell?_of_block (a := ⟨b, o + k * 5 + i, none⟩) (hC.block b hbw hbg (fun e => hbr e.symm))]
      exact hc i u hu
    exact ⟨b, o, hA0, hk1 0 _ rfl, hk1 1 _ rfl, hk1 2 _ rfl, hk1 3 _ rfl, hk1 4 _ rfl⟩
  have HPL : Hid (∀ k, k ≤ l.length → (packL ((l.length : Int) :: (l.take k).flatMap Db.nums)).length ≤ 10 + 50 * k) := Lib.hid fun k hk => by
    have h1 := Db.encl (l := l.take k) (fun x hx => h6 x (List.mem_of_mem_take hx))
    rw [List.length_take, Nat.min_eq_left hk] at h1
    rw [packL_cons, List.length_append]
    have h2 : (packI (l.length : Int)).length ≤ 10 := vb_len10 (zz_lt (n := (l.length : Int)) (by unfold In64p; omega))
    omega
  have HIN := Lib.hid (wintsW W g A c bs (some ⟨w.heap.size + 1, 0, none⟩) 1 [(l.length : Int)] ((w.alloc (.cells #[.pointer (some ⟨g, 0, none⟩)] 59)).alloc (.cells #[.int .i64 (l.length : Int)] 3)) hS1 (by simp) (by simp; omega) (fun x hx => by rw [List.mem_singleton.1 hx]; unfold In64p; omega) (Sl.new1 _ _ _ _) (fun b o e _ => by
    injection e with e
    injection e with e _
    subst e
    exact ⟨by omega, fun e2 => own_newB hS.wr.own (Nat.le_succ _) e2⟩))
  clear hs hs1 hf h6 hS hS1 hb0 hx hx1
  go_enter Try.func50, Try.ntmps50
  go_wp2_with fail
  refine HIN.out.mono ?_
  rintro e w2 ⟨rfl, A1, c1, hW1⟩
  have HW0 := Lib.hid hW1
  generalize (w.alloc (.cells #[.pointer (some ⟨g, 0, none⟩)] 59)).alloc (.cells #[.int .i64 (l.length : Int)] 3) = W1 at *
  clear HIN hW1
  go_wp2_with fail
  go_loopw [15] (fun i wr => ∃ (k : Nat) (A2 : Option Addr) (c2 : Nat), k ≤ l.length ∧ i = .int .i64 k ∧ Wt W g (ob A bs c) A2 c2 (bs ++ packL ((l.length : Int) :: (l.take k).flatMap Db.nums)) W1 wr) (fun i _ => l.length - (intOf i).toNat)
  case atStart => exact ⟨0, A1, c1, by omega, rfl, by simpa using HW0.out⟩
  case round =>
    obtain ⟨k, A2, c2, hk, rfl, hW⟩ := hrel
    by_cases hlk : k < l.length
    · have hlk1 : (k : Int) < (l.length : Int) := by omega
      have hk0 : (0 : Int) ≤ (k : Int) := by omega
      obtain ⟨b, o, hA0, hce⟩ := HEL.out wr hW.chg k hlk
      have hbox := HS1.out.keep hW.chg HX1.out (fun cs t f e => by injection e with _ e2 _; subst e2; decide)
      have hT : packL ((l.length : Int) :: (l.take (k + 1)).flatMap Db.nums) = packL ((l.length : Int) :: (l.take k).flatMap Db.nums) ++ packL l[k].nums := by
        rw [← packL_append, take_snoc l k hlk, List.flatMap_append]
        simp
      have hpk := HPL.out k hk
      have hin := H6.out _ (List.getElem_mem hlk)
      obtain ⟨x, hxe⟩ : ∃ x, l[k] = x := ⟨_, rfl⟩
      rw [hxe] at hce hT hin
      obtain ⟨va, vb, vc, vd, vq⟩ := x
      simp only at hce
      obtain ⟨ha, hb, hc, hd, hq⟩ := hce
      obtain ⟨ia, ib, ic, id, iq⟩ := hin
      have hal := since_alloc (Below.refl _ wr) (.cells #[.int .i64 va, .int .i64 vb, .int .i64 vc, .int .i64 vd, .int .i64 vq] 94)
      have HI := Lib.hid (encD_any W g wb A2 c2 (bs ++ packL ((l.length : Int) :: (l.take k).flatMap Db.nums)) va vb vc vd vq (wr.alloc (.cells #[.int .i64 va, .int .i64 vb, .int .i64 vc, .int .i64 vd, .int .i64 vq] 94)) (hW.s.below hal) ((hal.block wb (Array.getElem?_eq_some_iff.1 hbox).1).trans hbox) (by rw [List.length_append]; omega) ia ib ic id iq)
      have HT := Lib.hid hT
      have HW := Lib.hid (hW.below hal)
      subst hA0
      clear hT hxe ia ib ic id iq hpk hbox hW hal
      go_wp2_with (first | (go_at_call 51; refine HI.out.mono ?_; rintro e w2 ⟨rfl, A3, c3, hW3⟩) | fail)
      have hWN := HW.out.trans hW3
      rw [List.append_assoc] at hWN
      have hT2 : packL ((l.length : Int) :: (l.take (k + 1)).flatMap Db.nums) = packL ((l.length : Int) :: (l.take k).flatMap Db.nums) ++ packL [va, vb, vc, vd, vq] := HT.out
      rw [← hT2] at hWN
      clear hW3 HI hT2
      go_roundw
      case rel => exact ⟨k + 1, A3, c3, by omega, by go_num, hWN⟩
      case measure => simp [intOf]; omega
    · obtain rfl : k = l.length := by omega
      rw [List.take_length] at hW
      go_wp2_with fail
      go_end0
      exact ⟨rfl, A2, c2, HT0.out _ _ _ _ hW⟩
theorem lot_any (W g wb : Nat) (A : Option Addr) (c : Nat) (bs : List Nat) (a b q : Int) (w : World) (hS : WrS W w g A c bs) (hx : w.heap[wb]? = some (.cells #[.pointer (some ⟨g, 0, none⟩)] 59 (0, 0))) (hbl : bs.length ≤ 800000) (ha : In64p a) (hb : In64p b) (hq : In64p q) :
    Calls Try.prog 56 #[.agg #[.pointer (some ⟨g, 0, none⟩)], .agg #[.int .i64 a, .int .i64 b, .int .i64 q]] w fun e w' => e = .returned (.tuple #[]) ∧ ∃ A' c', Wt W g (ob A bs c) A' c' (bs ++ packL [a, b, q]) w w' := wlotW W g A c bs a b q w hS (by omega) ha hb hq
theorem Lo.encl {l : List Lo} (h : ∀ x ∈ l, x.in64) : (packL (l.flatMap Lo.nums)).length ≤ 30 * l.length := by
  have h1 := packL_le (l := l.flatMap Lo.nums) (fun z hz => by
    obtain ⟨x, hx, hz⟩ := List.mem_flatMap.1 hz
    have := h x hx
    unfold Lo.in64 at this
    simp only [Lo.nums, List.mem_cons, List.not_mem_nil, or_false] at hz
    rcases hz with rfl | rfl | rfl <;> simp only [this])
  have h2 : (l.flatMap Lo.nums).length = 3 * l.length := by
    induction l with
    | nil => rfl
    | cons x r ih =>
      rw [List.flatMap_cons, List.length_append, List.length_cons, ih (fun y hy => h y (by simp [hy])) (packL_le (fun z hz => by
        obtain ⟨x, hx, hz⟩ := List.mem_flatMap.1 hz
        have := h x (by simp [hx])
        unfold Lo.in64 at this
        simp only [Lo.nums, List.mem_cons, List.not_mem_nil, or_false] at hz
        rcases hz with rfl | rfl | rfl <;> simp only [this]))]
      simp [Lo.nums]; omega
  omega
set_option maxHeartbeats 16000000 in
set_option maxRecDepth 100000 in
theorem wputL (W g wb : Nat) (A : Option Addr) (c : Nat) (bs : List Nat) (A0 : Option Addr) (cap : Nat) (l : List Lo) (w : World) (hS : WrS W w g A c bs) (hx : w.heap[wb]? = some (.cells #[.pointer (some ⟨g, 0, none⟩)] 59 (0, 0))) (hl : l.length ≤ 100) (hbl : bs.length ≤ 700000) (h6 : ∀ x ∈ l, x.in64) (hs : Sl w A0 (rc Lo.cells l))
    (hf : ∀ b o, A0 = some ⟨b, o, none⟩ → l ≠ [] → b ≠ g ∧ ob A bs c ≠ some b) :
    Calls Try.prog 55 #[.agg #[.pointer (some ⟨g, 0, none⟩)], .slice A0 l.length cap, .func (.func 56) #[.agg #[.pointer (some ⟨g, 0, none⟩)]] #[]] w fun e w' => e = .returned (.tuple #[]) ∧ ∃ A' c', Wt W g (ob A bs c) A' c' (bs ++ packL ((l.length : Int) :: l.flatMap Lo.nums)) w w' := by
  have hb0 : Below w.heap.size w ((w.alloc (.cells #[.pointer (some ⟨g, 0, none⟩)] 59)).alloc (.cells #[.int .i64 (l.length : Int)] 3)) := since_alloc (since_alloc (Below.refl _ w) (.cells #[.pointer (some ⟨g, 0, none⟩)] 59)) (.cells #[.int .i64 (l.length : Int)] 3)
  have hS1 := hS.below hb0
  have hs1 := hs.below hb0
  have hx1 := (hb0.block wb (Array.getElem?_eq_some_iff.1 hx).1).trans hx
  have hlt := hS.wr.lt
  have H6 := Lib.hid h6
  have HS1 := Lib.hid hS1
  have HX1 := Lib.hid hx1
  have HT0 : Hid (∀ A' c' bs' V, Wt W g (ob A bs c) A' c' bs' ((w.alloc (.cells #[.pointer (some ⟨g, 0, none⟩)] 59)).alloc (.cells #[.int .i64 (l.length : Int)] 3)) V → Wt W g (ob A bs c) A' c' bs' w V) := Lib.hid fun A' c' bs' V h => ((Wt.refl hS).below hb0).trans h
  have HEL : Hid (∀ V, Chg g (ob A bs c) ((w.alloc (.cells #[.pointer (some ⟨g, 0, none⟩)] 59)).alloc (.cells #[.int .i64 (l.length : Int)] 3)) V → ∀ k, (hk : k < l.length) → ∃ b o, A0 = some ⟨b, o, none⟩ ∧ V.cell? ⟨b, o + k * 3, none⟩ = some (.int .i64 l[k].a) ∧ V.cell? ⟨b, o + k * 3 + 1, none⟩ = some (.int .i64 l[k].b) ∧ V.cell? ⟨b, o + k * 3 + 2, none⟩ = some (.int .i64 l[k].q)) := Lib.hid fun V hC k hk => by
    obtain ⟨b, o, hA0, hbw, hc⟩ := Sl.elem (m := 3) (fun x => rfl) (by decide) hs1 hk
    obtain ⟨hbg, hbr⟩ := hf b o hA0 (fun e => by subst e; simp at hk)
    have hk1 : ∀ i u, (Lo.cells l[k])[i]? = some u → V.cell? ⟨b, o + k * 3 + i, none⟩ = some u := fun i u hu => by
      rw [World.cell?_of_block (a := ⟨b, o + k * 3 + i, none⟩) (hC.block b hbw hbg (fun e => hbr e.symm))]
      exact hc i u hu
    exact ⟨b, o, hA0, hk1 0 _ rfl, hk1 1 _ rfl, hk1 2 _ rfl⟩
  have HPL : Hid (∀ k, k ≤ l.length → (packL ((l.length : Int) :: (l.take k).flatMap Lo.nums)).length ≤ 10 + 30 * k) := Lib.hid fun k hk => by
    have h1 := Lo.encl (l := l.take k) (fun x hx => h6 x (List.mem_of_mem_take hx))
    rw [List.length_take, Nat.min_eq_left hk] at h1
    rw [packL_cons, List.length_append]
    have h2 : (packI (l.length : Int)).length ≤ 10 := vb_len10 (zz_lt (n := (l.length : Int)) (by unfold In64p; omega))
    omega
  have HIN := Lib.hid (wintsW W g A c bs (some ⟨w.heap.size + 1, 0, none⟩) 1 [(l.length : Int)] ((w.alloc (.cells #[.pointer (some ⟨g, 0, none⟩)] 59)).alloc (.cells #[.int .i64 (l.length : Int)] 3)) hS1 (by simp) (by simp; omega) (fun x hx => by rw [List.mem_singleton.1 hx]; unfold In64p; omega) (Sl.new1 _ _ _ _) (fun b o e _ => by
    injection e with e
    injection e with e _
    subst e
    exact ⟨by omega, fun e2 => own_newB hS.wr.own (Nat.le_succ _) e2⟩))
  clear hs hs1 hf h6 hS hS1 hb0 hx hx1
  go_enter Try.func55, Try.ntmps55
  go_wp2_with fail
  refine HIN.out.mono ?_
  rintro e w2 ⟨rfl, A1, c1, hW1⟩
  have HW0 := Lib.hid hW1
  generalize (w.alloc (.cells #[.pointer (some ⟨g, 0, none⟩)] 59)).alloc (.cells #[.int .i64 (l.length : Int)] 3) = W1 at *
  clear HIN hW1
  go_wp2_with fail
  go_loopw [15] (fun i wr => ∃ (k : Nat) (A2 : Option Addr) (c2 : Nat), k ≤ l.length ∧ i = .int .i64 k ∧ Wt W g (ob A bs c) A2 c2 (bs ++ packL ((l.length : Int) :: (l.take k).flatMap Lo.nums)) W1 wr) (fun i _ => l.length - (intOf i).toNat)
  case atStart => exact ⟨0, A1, c1, by omega, rfl, by simpa using HW0.out⟩
  case round =>
    obtain ⟨k, A2, c2, hk, rfl, hW⟩ := hrel
    by_cases hlk : k < l.length
    · have hlk1 : (k : Int) < (l.length : Int) := by omega
      have hk0 : (0 : Int) ≤ (k : Int) := by omega
      obtain ⟨b, o, hA0, hce⟩ := HEL.out wr hW.chg k hlk
      have hbox := HS1.out.keep hW.chg HX1.out (fun cs t f e => by injection e with _ e2 _; subst e2; decide)
      have hT : packL ((l.length : Int) :: (l.take (k + 1)).flatMap Lo.nums) = packL ((l.length : Int) :: (l.take k).flatMap Lo.nums) ++ packL l[k].nums := by
        rw [← packL_append, take_snoc l k hlk, List.flatMap_append]
        simp
      have hpk := HPL.out k hk
      have hin := H6.out _ (List.getElem_mem hlk)
      obtain ⟨x, hxe⟩ : ∃ x, l[k] = x := ⟨_, rfl⟩
      rw [hxe] at hce hT hin
      obtain ⟨va, vb, vq⟩ := x
      simp only at hce
      obtain ⟨ha, hb, hq⟩ := hce
      obtain ⟨ia, ib, iq⟩ := hin
      have hal := since_alloc (Below.refl _ wr) (.cells #[.int .i64 va, .int .i64 vb, .int .i64 vq] 105)
      have HI := Lib.hid (lot_any W g wb A2 c2 (bs ++ packL ((l.length : Int) :: (l.take k).flatMap Lo.nums)) va vb vq (wr.alloc (.cells #[.int .i64 va, .int .i64 vb, .int .i64 vq] 105)) (hW.s.below hal) ((hal.block wb (Array.getElem?_eq_some_iff.1 hbox).1).trans hbox) (by rw [List.length_append]; omega) ia ib iq)
      have HT := Lib.hid hT
      have HW := Lib.hid (hW.below hal)
      subst hA0
      clear hT hxe ia ib iq hpk hbox hW hal
      go_wp2_with (first | (go_at_call 56; refine HI.out.mono ?_; rintro e w2 ⟨rfl, A3, c3, hW3⟩) | fail)
      have hWN := HW.out.trans hW3
      rw [List.append_assoc] at hWN
      have hT2 : packL ((l.length : Int) :: (l.take (k + 1)).flatMap Lo.nums) = packL ((l.length : Int) :: (l.take k).flatMap Lo.nums) ++ packL [va, vb, vq] := HT.out
      rw [← hT2] at hWN
      clear hW3 HI hT2
      go_roundw
      case rel => exact ⟨k + 1, A3, c3, by omega, by go_num, hWN⟩
      case measure => simp [intOf]; omega
    · obtain rfl : k = l.length := by omega
      rw [List.take_length] at hW
      go_wp2_with fail
      go_end0
      exact ⟨rfl, A2, c2, HT0.out _ _ _ _ hW⟩
end Go.Proofs.Ytpmnjojednbnpaa
end
