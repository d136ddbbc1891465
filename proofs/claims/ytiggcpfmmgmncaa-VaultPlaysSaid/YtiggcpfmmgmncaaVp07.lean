import Derived.Test.YtiggcpfmmgmncaaVp06
set_option maxHeartbeats 16000000
set_option maxRecDepth 100000
set_option linter.unusedVariables false
set_option linter.unusedSimpArgs false
namespace Go.Proofs.Ytiggcpfmmgmncaa
open Go.ChangeShapes Go.WideShapes Go.ChangeAt Go.RowKit
section
def DRes (B : Nat) (w' : World) (e : Ending) (R : Fr × Int) : Prop := ∃ A' c', e = .returned (.tuple #[R.1.val A' c', .int .i64 R.2]) ∧ w'.ownsRow B 5 1 (.slice A' R.1.data.length c') R.1.data.length (by8 R.1.data)
theorem DRes.no (B : Nat) (w' : World) : DRes B w' (.returned (.tuple #[.agg #[.int .i64 0, .int .i64 0, .int .i64 0, .int .i64 0, .int .i64 0, .slice none 0 0], .int .i64 3])) (Fr0, 3) := ⟨none, 0, rfl, own_nil _ _ _⟩
theorem fdec7_short (A : Option Addr) (n c : Nat) (w : World) (hn : n ≠ 96) :
    Calls Try.prog 92 #[.slice A n c] w fun e w' => DRes w.heap.size w' e (Fr0, 3) ∧ Below w.heap.size w w' := by
  have hn2 : ((n : Int) != 96) = true := by simp; omega
  go_enter Try.func92, Try.ntmps92
  go_wp2_with fail
  refine bodyPost_ret (v := .tuple #[.agg #[.int .i64 0, .int .i64 0, .int .i64 0, .int .i64 0, .int .i64 0, .slice none 0 0], .int .i64 3]) ?_ rfl ⟨DRes.no _ _, since_alloc (Below.refl _ _) _⟩
  simp [results, Try.results92, go_sem]
theorem fdec7_big (b o c d : Nat) (w : World) (hc : 96 ≤ c) (hcm : c ≤ maxLen) (hd : 80 < d) (hd3 : d < 256) (hcd : w.cell? ⟨b, o + 12, none⟩ = some (.int .u8 (d : Int))) :
    Calls Try.prog 92 #[.slice (some ⟨b, o, none⟩) 96 c] w fun e w' => DRes w.heap.size w' e (Fr0, 3) ∧ Below w.heap.size w w' := by
  have hd2 : (80 : Int) < (d : Int) := by omega
  have hblt : b < w.heap.size := World.block_lt_of_cell? _ _ hcd
  go_enter Try.func92, Try.ntmps92
  go_wp2_with fail
  refine bodyPost_ret (v := .tuple #[.agg #[.int .i64 0, .int .i64 0, .int .i64 0, .int .i64 0, .int .i64 0, .slice none 0 0], .int .i64 3]) ?_ rfl ⟨DRes.no _ _, since_alloc (Below.refl _ _) _⟩
  simp [results, Try.results92, go_sem]
theorem own_le {w : World} {base e size n c : Nat} {A : Option Addr} {xs : List Value} (h : w.ownsRow base e size (.slice A n c) n xs) : n ≤ c := by
  rcases h.2 with ⟨e1, e2⟩ | ⟨g, cap, cur, e1, _, _, _, _, _, _⟩
  · omega
  · injection e1 with _ _ e3; omega
theorem clone8_any (A : Option Addr) (cap : Nat) (l : List Nat) (w : World) (hl : l.length ≤ 1000000) (hs : Sl w A (by8 l)) :
    Calls Try.prog 58 #[.slice A l.length cap] w fun e w' => (∃ A' c', e = .returned (.slice A' l.length c') ∧ w'.ownsRow w.heap.size 5 1 (.slice A' l.length c') l.length (by8 l)) ∧ Below w.heap.size w w' := by
  cases A with
  | none =>
    have hn : l = [] := by
      cases l with
      | nil => rfl
      | cons g m => obtain ⟨b, o, e, _⟩ := hs.byte (j := 0) (by simp); cases e
    subst hn
    have hnil := fun w : World => Go.Lib.run_eql_slice_nil (P := Try.prog) w 36 5 none 0 cap 0 0 EF8.und
    go_enter Try.func58, Try.ntmps58
    go_wp2_with fail
    go_ret
    exact ⟨⟨none, 0, rfl, own_nil _ _ _⟩, Below.refl _ _⟩
  | some ad =>
    have hnil := fun w : World => Go.Lib.run_eql_slice_nil (P := Try.prog) w 36 5 (some ad) l.length cap 0 0 EF8.und
    go_enter Try.func58, Try.ntmps58
    go_wp2_with (first
      | (at_builtin; refine wpList_app rfl (.tmp 5) (.tmp 6) rfl EF8 rfl rfl (World.ownsRow_made (w := w) #[] 0 (Nat.le_refl _) (Nat.zero_le _) rfl) (by rw [by8_length]; omega) (hs.alloc _) (by8_one l) (by unfold maxLen; omega) (by omega) (by simp) ?_; intro A2 c2 w2 hown2 hg2 hb2; simp only [Nat.zero_add, List.nil_append] at hown2)
      | fail)
    refine bodyPost_ret (results_tmp rfl _ _ _) rfl ⟨⟨A2, c2, by simp, by simpa using hown2⟩, ?_⟩
    exact Below.trans ((Below.refl _ _).alloc (Nat.le_refl _) _) hb2
theorem seg_take {l : List Nat} {n m k : Nat} (h : n + m ≤ k) (hk : k ≤ l.length) : seg (l.take k) n m = seg l n m := by
  have h2 := seg_app_left (a := l.take k) (b := l.drop k) (n := n) (m := m) (by rw [List.length_take]; omega)
  rw [List.take_append_drop] at h2
  exact h2.symm
theorem frozen_new (w : World) (cs : Array Value) (t : TypeId) (i : Nat) : (w.alloc (.cells cs t)).frozen? ⟨w.heap.size, i, none⟩ = false := by
  have h := heap_alloc_new w (.cells cs t)
  unfold World.frozen?
  simp only
  rw [h]
  simp
theorem fdec7_dirty (b o c : Nat) (l : List Nat) (w : World) (h96 : l.length = 96) (hc : 96 ≤ c) (hcm : c ≤ maxLen) (hs : Sl w (some ⟨b, o, none⟩) (by8 l)) (ho : Oct l) (hd : l.getD 12 0 ≤ 80) (hz : blankF (seg l (13 + l.getD 12 0) (80 - l.getD 12 0)) = false) :
    Calls Try.prog 92 #[.slice (some ⟨b, o, none⟩) 96 c] w fun e w' => DRes w.heap.size w' e (Fr0, 3) ∧ Below w.heap.size w w' := by
  obtain ⟨d, hd0⟩ : ∃ d, l.getD 12 0 = d := ⟨_, rfl⟩
  have hcd : w.cell? ⟨b, o + 12, none⟩ = some (.int .u8 (d : Int)) := by
    obtain ⟨_, _, e, h⟩ := hs.byte (j := 12) (by omega)
    injection e with e; injection e with e1 e2; subst e1; subst e2
    rw [h, ← hd0, List.getD_eq_getElem?_getD, List.getElem?_eq_getElem (by omega)]
    rfl
  rw [hd0] at hd hz 
  have hd2 : ¬ (d : Int) > 80 := by omega
  have hblt : b < w.heap.size := World.block_lt_of_cell? _ _ hcd
  have hq1 : (13 : Int) + (d : Int) ≤ 93 := by omega
  have hq2 : (0 : Int) ≤ 13 + (d : Int) := by omega
  have hq3 : (93 : Int) ≤ (c : Int) := by omega
  have hsl := (hs.alloc (.cells #[.int .i64 0, .int .i64 0, .int .i64 0, .int .i64 0, .int .i64 0, .slice none 0 0] 130))
  have hbl := blank7_any (some ⟨b, o + (13 + d), none⟩) (c - (13 + d)) (seg l (13 + d) (80 - d)) (w.alloc (.cells #[.int .i64 0, .int .i64 0, .int .i64 0, .int .i64 0, .int .i64 0, .slice none 0 0] 130)) (by rw [seg_len (by omega)]; omega) (hsl.seg _ _)
  rw [seg_len (by omega), hz, show 80 - d = 93 - (13 + d) by omega] at hbl
  have HBL := Lib.hid hbl
  have HBX := Lib.hid (fun V (hV : Below (w.heap.size + 1) (w.alloc (.cells #[.int .i64 0, .int .i64 0, .int .i64 0, .int .i64 0, .int .i64 0, .slice none 0 0] 130)) V) => box6 (V := V) (by rw [World.size_alloc]; exact hV))
  have HFZ : Hid (∀ V, Below (w.heap.size + 1) (w.alloc (.cells #[.int .i64 0, .int .i64 0, .int .i64 0, .int .i64 0, .int .i64 0, .slice none 0 0] 130)) V → (∀ i, V.frozen? ⟨w.heap.size, i, none⟩ = false) ∧ w.heap.size < V.heap.size) := Lib.hid fun V hV => ⟨fun i => by rw [hV.frozen (p := ⟨w.heap.size, i, none⟩) (Nat.lt_succ_self w.heap.size)]; exact frozen_new w _ _ i, by have := hV.size; rw [World.size_alloc] at this; omega⟩
  clear hbl hz hd0 hs hsl
  go_enter Try.func92, Try.ntmps92
  go_wp2_with fail
  refine HBL.out.mono ?_
  rintro e v1 ⟨rfl, hB⟩
  rw [World.size_alloc] at hB
  obtain ⟨y0, y1, y2, y3, y4, y5⟩ := HBX.out _ hB
  obtain ⟨hfz, hglt⟩ := HFZ.out _ hB
  go_wp2_with fail
  refine bodyPost_ret (v := .tuple #[.agg #[.int .i64 0, .int .i64 0, .int .i64 0, .int .i64 0, .int .i64 0, .slice none 0 0], .int .i64 3]) ?_ rfl ⟨DRes.no _ _, ?_⟩
  · simp [results, Try.results92, go_sem, cell_set, y0, y1, y2, y3, y4, y5]
    go_show
  · have hBw : Below w.heap.size w v1 := ((Below.refl _ w).alloc (Nat.le_refl _) _).trans (hB.mono (Nat.le_succ _))
    exact Below.setCell (Below.setCell (Below.setCell (Below.setCell (Below.setCell (Below.setCell hBw (Nat.le_refl _) _) (Nat.le_refl _) _) (Nat.le_refl _) _) (Nat.le_refl _) _) (Nat.le_refl _) _) (Nat.le_refl _) _
theorem cand_ok0 {l : List Nat} (h96 : l.length = 96) (hd : l.getD 12 0 ≤ 80) : Fr.ok ⟨(bnum (seg l 0 3) : Nat), (bnum (seg l 3 3) : Nat), (bnum (seg l 6 4) : Nat), (bnum (seg l 10 1) : Nat), (bnum (seg l 11 1) : Nat), []⟩ = (cand l).ok := by
  have e1 : bnum (seg l 10 1) = l.getD 10 0 := by rw [seg_one (by omega)]; simp [bnum]
  have e2 : bnum (seg l 11 1) = l.getD 11 0 := by rw [seg_one (by omega)]; simp [bnum]
  rw [e1, e2]
  unfold Fr.ok cand
  simp only
  have h1 : decide ((seg l 13 (l.getD 12 0)).length ≤ 80) = true := decide_eq_true (by rw [seg_len (by omega)]; exact hd)
  rw [h1]
  rfl
theorem fdec7_unfit (b o c : Nat) (l : List Nat) (w : World) (h96 : l.length = 96) (hc : 96 ≤ c) (hcm : c ≤ maxLen) (hs : Sl w (some ⟨b, o, none⟩) (by8 l)) (ho : Oct l) (hd : l.getD 12 0 ≤ 80) (hz : blankF (seg l (13 + l.getD 12 0) (80 - l.getD 12 0)) = true) (hok : (cand l).ok = false) :
    Calls Try.prog 92 #[.slice (some ⟨b, o, none⟩) 96 c] w fun e w' => DRes w.heap.size w' e (Fr0, 3) ∧ Below w.heap.size w w' := by
  obtain ⟨n0, hn0⟩ : ∃ n : Int, ((bnum (seg l 0 3) : Nat) : Int) = n := ⟨_, rfl⟩
  obtain ⟨n1, hn1⟩ : ∃ n : Int, ((bnum (seg l 3 3) : Nat) : Int) = n := ⟨_, rfl⟩
  obtain ⟨n2, hn2⟩ : ∃ n : Int, ((bnum (seg l 6 4) : Nat) : Int) = n := ⟨_, rfl⟩
  obtain ⟨n3, hn3⟩ : ∃ n : Int, ((bnum (seg l 10 1) : Nat) : Int) = n := ⟨_, rfl⟩
  obtain ⟨n4, hn4⟩ : ∃ n : Int, ((bnum (seg l 11 1) : Nat) : Int) = n := ⟨_, rfl⟩
  have hok0 := cand_ok0 h96 hd
  rw [hok, hn0, hn1, hn2, hn3, hn4] at hok0
  have HFIT := Lib.hid (fun V => fit7_any ⟨n0, n1, n2, n3, n4, []⟩ none 0 V)
  simp only [Fr.val, List.length_nil] at HFIT
  rw [hok0] at HFIT
  clear hok0
  obtain ⟨d, hd0⟩ : ∃ d, l.getD 12 0 = d := ⟨_, rfl⟩
  have hcd : w.cell? ⟨b, o + 12, none⟩ = some (.int .u8 (d : Int)) := by
    obtain ⟨_, _, e, h⟩ := hs.byte (j := 12) (by omega)
    injection e with e; injection e with e1 e2; subst e1; subst e2
    rw [h, ← hd0, List.getD_eq_getElem?_getD, List.getElem?_eq_getElem (by omega)]
    rfl
  rw [hd0] at hd hz 
  have hd2 : ¬ (d : Int) > 80 := by omega
  have hblt : b < w.heap.size := World.block_lt_of_cell? _ _ hcd
  have hq1 : (13 : Int) + (d : Int) ≤ 93 := by omega
  have hq2 : (0 : Int) ≤ 13 + (d : Int) := by omega
  have hq3 : (93 : Int) ≤ (c : Int) := by omega
  have hsl := (hs.alloc (.cells #[.int .i64 0, .int .i64 0, .int .i64 0, .int .i64 0, .int .i64 0, .slice none 0 0] 130))
  have hbl := blank7_any (some ⟨b, o + (13 + d), none⟩) (c - (13 + d)) (seg l (13 + d) (80 - d)) (w.alloc (.cells #[.int .i64 0, .int .i64 0, .int .i64 0, .int .i64 0, .int .i64 0, .slice none 0 0] 130)) (by rw [seg_len (by omega)]; omega) (hsl.seg _ _)
  rw [seg_len (by omega), hz, show 80 - d = 93 - (13 + d) by omega] at hbl
  have HBL := Lib.hid hbl
  have HBX := Lib.hid (fun V (hV : Below (w.heap.size + 1) (w.alloc (.cells #[.int .i64 0, .int .i64 0, .int .i64 0, .int .i64 0, .int .i64 0, .slice none 0 0] 130)) V) => box6 (V := V) (by rw [World.size_alloc]; exact hV))
  have HFZ : Hid (∀ V, Below (w.heap.size + 1) (w.alloc (.cells #[.int .i64 0, .int .i64 0, .int .i64 0, .int .i64 0, .int .i64 0, .slice none 0 0] 130)) V → (∀ i, V.frozen? ⟨w.heap.size, i, none⟩ = false) ∧ w.heap.size < V.heap.size) := Lib.hid fun V hV => ⟨fun i => by rw [hV.frozen (p := ⟨w.heap.size, i, none⟩) (Nat.lt_succ_self w.heap.size)]; exact frozen_new w _ _ i, by have := hV.size; rw [World.size_alloc] at this; omega⟩
  have HSW := Lib.hid hs
  have H96 := Lib.hid h96
  have HD0 := Lib.hid hd0
  clear hbl hz hd0 hs hsl h96
  go_enter Try.func92, Try.ntmps92
  go_wp2_with fail
  refine HBL.out.mono ?_
  rintro e v1 ⟨rfl, hB⟩
  rw [World.size_alloc] at hB
  have HB0 := Lib.hid hB
  have HSZ : Hid (w.heap.size + 1 ≤ v1.heap.size) := Lib.hid (by have := hB.size; rw [World.size_alloc] at this; exact this)
  have HNE : Hid (¬ v1.heap.size = w.heap.size ∧ ¬ w.heap.size = v1.heap.size) := Lib.hid (by have := HSZ.out; omega)
  have hBw : Below w.heap.size w v1 := ((Below.refl _ w).alloc (Nat.le_refl _) _).trans (hB.mono (Nat.le_succ _))
  have HSL := Lib.hid (HSW.out.below hBw)
  have h96 := H96.out
  have HG2 : Hid (∀ V, Below v1.heap.size v1 V → Calls Try.prog 100 #[.slice (some ⟨b, o, none⟩) 3 (c)] V fun e w' => e = .returned (.int .i64 n0) ∧ V = w') := Lib.hid fun V hV => by
    have h := get7_any (some ⟨b, o + 0, none⟩) (c) (seg l 0 3) V (by rw [seg_len (by omega)]; omega) (seg_oct ho _ _) ((HSL.out.below hV).seg _ _)
    rw [seg_len (by omega), hn0] at h
    exact h
  have HG5 : Hid (∀ V, Below v1.heap.size v1 V → Calls Try.prog 100 #[.slice (some ⟨b, o + 3, none⟩) 3 (c - 3)] V fun e w' => e = .returned (.int .i64 n1) ∧ V = w') := Lib.hid fun V hV => by
    have h := get7_any (some ⟨b, o + 3, none⟩) (c - 3) (seg l 3 3) V (by rw [seg_len (by omega)]; omega) (seg_oct ho _ _) ((HSL.out.below hV).seg _ _)
    rw [seg_len (by omega), hn1] at h
    exact h
  have HG8 : Hid (∀ V, Below v1.heap.size v1 V → Calls Try.prog 100 #[.slice (some ⟨b, o + 6, none⟩) 4 (c - 6)] V fun e w' => e = .returned (.int .i64 n2) ∧ V = w') := Lib.hid fun V hV => by
    have h := get7_any (some ⟨b, o + 6, none⟩) (c - 6) (seg l 6 4) V (by rw [seg_len (by omega)]; omega) (seg_oct ho _ _) ((HSL.out.below hV).seg _ _)
    rw [seg_len (by omega), hn2] at h
    exact h
  have HG11 : Hid (∀ V, Below v1.heap.size v1 V → Calls Try.prog 100 #[.slice (some ⟨b, o + 10, none⟩) 1 (c - 10)] V fun e w' => e = .returned (.int .i64 n3) ∧ V = w') := Lib.hid fun V hV => by
    have h := get7_any (some ⟨b, o + 10, none⟩) (c - 10) (seg l 10 1) V (by rw [seg_len (by omega)]; omega) (seg_oct ho _ _) ((HSL.out.below hV).seg _ _)
    rw [seg_len (by omega), hn3] at h
    exact h
  have HG14 : Hid (∀ V, Below v1.heap.size v1 V → Calls Try.prog 100 #[.slice (some ⟨b, o + 11, none⟩) 1 (c - 11)] V fun e w' => e = .returned (.int .i64 n4) ∧ V = w') := Lib.hid fun V hV => by
    have h := get7_any (some ⟨b, o + 11, none⟩) (c - 11) (seg l 11 1) V (by rw [seg_len (by omega)]; omega) (seg_oct ho _ _) ((HSL.out.below hV).seg _ _)
    rw [seg_len (by omega), hn4] at h
    exact h
  clear h96 hB hBw
  have hc3 : (3 : Int) ≤ (c : Int) ∧ (6 : Int) ≤ (c : Int) ∧ (10 : Int) ≤ (c : Int) ∧ (11 : Int) ≤ (c : Int) ∧ (12 : Int) ≤ (c : Int) := by omega
  have hc4 : ¬ c = 3 ∧ ¬ c = 6 ∧ ¬ c = 10 ∧ ¬ c = 11 := by omega
  obtain ⟨hc30, hc31, hc32, hc33, hc34⟩ := hc3
  obtain ⟨hc40, hc41, hc42, hc43⟩ := hc4
  go_wp2_with fail
  refine wp_region_held_drew (S := (fun V' => Below v1.heap.size v1 V')) (by kernel_rfl) (by exact (Below.refl _ _).drew) (fun hHeld => ?_)
  refine tkI 0 27 rfl (by intro w hSw; skip; go_simp <;> with_reducible rfl) hHeld ?_; simp only [pqZ]
  refine tkI 1 28 rfl (by intro w hSw; skip; go_simp <;> with_reducible rfl) hHeld ?_; simp only [pqZ]
  refine tkI 3 30 rfl (by intro w hSw; skip; go_simp <;> with_reducible rfl) hHeld ?_; simp only [pqZ]
  refine tkI 4 31 rfl (by intro w hSw; skip; go_simp <;> with_reducible rfl) hHeld ?_; simp only [pqZ]
  refine tkI 6 33 rfl (by intro w hSw; skip; go_simp <;> with_reducible rfl) hHeld ?_; simp only [pqZ]
  refine tkI 7 34 rfl (by intro w hSw; skip; go_simp <;> with_reducible rfl) hHeld ?_; simp only [pqZ]
  refine tkI 9 36 rfl (by intro w hSw; skip; go_simp <;> with_reducible rfl) hHeld ?_; simp only [pqZ]
  refine tkI 10 37 rfl (by intro w hSw; skip; go_simp <;> with_reducible rfl) hHeld ?_; simp only [pqZ]
  refine tkI 12 39 rfl (by intro w hSw; skip; go_simp <;> with_reducible rfl) hHeld ?_; simp only [pqZ]
  refine tkI 13 40 rfl (by intro w hSw; skip; go_simp <;> with_reducible rfl) hHeld ?_; simp only [pqZ]
  refine wpAnyH_ready (rs := [2, 16]) (by kernel_rfl) (by simp) ?_
  refine AllReadyH.cons (o := ⟨some 29, _, _, _, _, _⟩) rfl (fun K hK => ?_) (AllReadyH.cons (o := ⟨some 5, _, _, _, _, _⟩) rfl (fun K hK => ?_) AllReadyH.nil)
  · go_simp
    refine (HG2.out _ hHeld).mono ?_
    rintro e x2 ⟨rfl, rfl⟩
    have hKeep := hHeld
    go_wp2_with fail
    refine hK.out _ _ (by (try dsimp only); exact hKeep) (fun hHeld => ?_); clear hK K hKeep; try simp only [pqZ]
    refine wpAnyH_ready (rs := [5, 16]) (by kernel_rfl) (by simp) ?_
    refine AllReadyH.cons (o := ⟨some 32, _, _, _, _, _⟩) rfl (fun K hK => ?_) (AllReadyH.cons (o := ⟨some 5, _, _, _, _, _⟩) rfl (fun K hK => ?_) AllReadyH.nil)
    · go_simp
      refine (HG5.out _ hHeld).mono ?_
      rintro e x5 ⟨rfl, rfl⟩
      have hKeep := hHeld
      go_wp2_with fail
      refine hK.out _ _ (by (try dsimp only); exact hKeep) (fun hHeld => ?_); clear hK K hKeep; try simp only [pqZ]
      refine wpAnyH_ready (rs := [8, 16]) (by kernel_rfl) (by simp) ?_
      refine AllReadyH.cons (o := ⟨some 35, _, _, _, _, _⟩) rfl (fun K hK => ?_) (AllReadyH.cons (o := ⟨some 5, _, _, _, _, _⟩) rfl (fun K hK => ?_) AllReadyH.nil)
      · go_simp
        refine (HG8.out _ hHeld).mono ?_
        rintro e x8 ⟨rfl, rfl⟩
        have hKeep := hHeld
        go_wp2_with fail
        refine hK.out _ _ (by (try dsimp only); exact hKeep) (fun hHeld => ?_); clear hK K hKeep; try simp only [pqZ]
        refine wpAnyH_ready (rs := [11, 16]) (by kernel_rfl) (by simp) ?_
        refine AllReadyH.cons (o := ⟨some 38, _, _, _, _, _⟩) rfl (fun K hK => ?_) (AllReadyH.cons (o := ⟨some 5, _, _, _, _, _⟩) rfl (fun K hK => ?_) AllReadyH.nil)
        · go_simp
          refine (HG11.out _ hHeld).mono ?_
          rintro e x11 ⟨rfl, rfl⟩
          have hKeep := hHeld
          go_wp2_with fail
          refine hK.out _ _ (by (try dsimp only); exact hKeep) (fun hHeld => ?_); clear hK K hKeep; try simp only [pqZ]
          refine wpAnyH_ready (rs := [14, 16]) (by kernel_rfl) (by simp) ?_
          refine AllReadyH.cons (o := ⟨some 41, _, _, _, _, _⟩) rfl (fun K hK => ?_) (AllReadyH.cons (o := ⟨some 5, _, _, _, _, _⟩) rfl (fun K hK => ?_) AllReadyH.nil)
          · go_simp
            refine (HG14.out _ hHeld).mono ?_
            rintro e x14 ⟨rfl, rfl⟩
            have hKeep := hHeld
            go_wp2_with fail
            refine hK.out _ _ (by (try dsimp only); exact hKeep) (fun hHeld => ?_); clear hK K hKeep; try simp only [pqZ]
            refine tkI 15 42 rfl (by intro w hSw; skip; go_simp <;> with_reducible rfl) hHeld ?_; simp only [pqZ]
            refine rdZ 16 5 rfl (by kernel_rfl) (fun K hK => ?_)
            have hHd := hHeld
            skip
            have hHp := hHeld
            have hKeep := since_alloc hHeld (.cells #[.int .i64 0, .int .i64 0, .int .i64 0, .int .i64 0, .int .i64 0, .slice none 0 0] 130)
            go_simp
            refine hK.out _ _ (by (try dsimp only); exact hKeep) (fun hHeld => ?_); clear hK K hKeep; try simp only [pqZ]
            refine wpAnyH_ready (rs := [17]) (by kernel_rfl) (by simp) ?_
            refine AllReadyH.cons (o := ⟨none, _, _, _, _, _⟩) rfl (fun K hK => ?_) AllReadyH.nil
            have hHd := hHeld
            skip
            have hKeep := since_alloc hHp (.cells #[.int .i64 n0, .int .i64 n1, .int .i64 n2, .int .i64 n3, .int .i64 n4, .slice none 0 0] 130)
            skip
            go_simp
            refine hK.out _ _ (by (try dsimp only); exact hKeep) (fun hHeld => ?_); clear hK K hKeep; try simp only [pqZ]
            refine wpAnyH_done (by kernel_rfl) ?_ _
            clear hHp
            have hB2 := HB0.out.trans (hHeld.mono HSZ.out)
            have hbx := hHeld
            go_wp2_with fail
            refine (HFIT.out _).mono ?_
            rintro e v2 ⟨rfl, hb2⟩
            have hB3 := hB2.trans (hb2.mono (Nat.le_trans HSZ.out hHeld.size))
            obtain ⟨y0, y1, y2, y3, y4, y5⟩ := HBX.out _ hB3
            obtain ⟨hfz, hglt⟩ := HFZ.out _ hB3
            have hBw2 : Below w.heap.size w v2 := ((Below.refl _ w).alloc (Nat.le_refl _) _).trans (hB3.mono (Nat.le_succ _))
            go_wp2_with fail
            refine bodyPost_ret (v := .tuple #[.agg #[.int .i64 0, .int .i64 0, .int .i64 0, .int .i64 0, .int .i64 0, .slice none 0 0], .int .i64 3]) ?_ rfl ⟨DRes.no _ _, ?_⟩
            · simp [results, Try.results92, go_sem, cell_set, y0, y1, y2, y3, y4, y5]
            · exact Below.setCell (Below.setCell (Below.setCell (Below.setCell (Below.setCell (Below.setCell hBw2 (Nat.le_refl _) _) (Nat.le_refl _) _) (Nat.le_refl _) _) (Nat.le_refl _) _) (Nat.le_refl _) _) (Nat.le_refl _) _
          · have hHd := hHeld
            skip
            have hHp := hHeld
            have hKeep := since_alloc hHeld (.cells #[.int .i64 0, .int .i64 0, .int .i64 0, .int .i64 0, .int .i64 0, .slice none 0 0] 130)
            go_simp
            refine hK.out _ _ (by (try dsimp only); exact hKeep) (fun hHeld => ?_); clear hK K hKeep; try simp only [pqZ]
            refine rdZ 14 41 rfl (by kernel_rfl) (fun K hK => ?_)
            go_simp
            refine (HG14.out _ hHeld).mono ?_
            rintro e x14 ⟨rfl, rfl⟩
            have hKeep := hHeld
            go_wp2_with fail
            refine hK.out _ _ (by (try dsimp only); exact hKeep) (fun hHeld => ?_); clear hK K hKeep; try simp only [pqZ]
            refine tkI 15 42 rfl (by intro w hSw; skip; go_simp <;> with_reducible rfl) hHeld ?_; simp only [pqZ]
            refine wpAnyH_ready (rs := [17]) (by kernel_rfl) (by simp) ?_
            refine AllReadyH.cons (o := ⟨none, _, _, _, _, _⟩) rfl (fun K hK => ?_) AllReadyH.nil
            have hHd := hHeld
            skip
            have hKeep := since_alloc hHp (.cells #[.int .i64 n0, .int .i64 n1, .int .i64 n2, .int .i64 n3, .int .i64 n4, .slice none 0 0] 130)
            skip
            go_simp
            refine hK.out _ _ (by (try dsimp only); exact hKeep) (fun hHeld => ?_); clear hK K hKeep; try simp only [pqZ]
            refine wpAnyH_done (by kernel_rfl) ?_ _
            clear hHp
            have hB2 := HB0.out.trans (hHeld.mono HSZ.out)
            have hbx := hHeld
            go_wp2_with fail
            refine (HFIT.out _).mono ?_
            rintro e v2 ⟨rfl, hb2⟩
            have hB3 := hB2.trans (hb2.mono (Nat.le_trans HSZ.out hHeld.size))
            obtain ⟨y0, y1, y2, y3, y4, y5⟩ := HBX.out _ hB3
            obtain ⟨hfz, hglt⟩ := HFZ.out _ hB3
            have hBw2 : Below w.heap.size w v2 := ((Below.refl _ w).alloc (Nat.le_refl _) _).trans (hB3.mono (Nat.le_succ _))
            go_wp2_with fail
            refine bodyPost_ret (v := .tuple #[.agg #[.int .i64 0, .int .i64 0, .int .i64 0, .int .i64 0, .int .i64 0, .slice none 0 0], .int .i64 3]) ?_ rfl ⟨DRes.no _ _, ?_⟩
            · simp [results, Try.results92, go_sem, cell_set, y0, y1, y2, y3, y4, y5]
            · exact Below.setCell (Below.setCell (Below.setCell (Below.setCell (Below.setCell (Below.setCell hBw2 (Nat.le_refl _) _) (Nat.le_refl _) _) (Nat.le_refl _) _) (Nat.le_refl _) _) (Nat.le_refl _) _) (Nat.le_refl _) _
        · have hHd := hHeld
          skip
          have hHp := hHeld
          have hKeep := since_alloc hHeld (.cells #[.int .i64 0, .int .i64 0, .int .i64 0, .int .i64 0, .int .i64 0, .slice none 0 0] 130)
          go_simp
          refine hK.out _ _ (by (try dsimp only); exact hKeep) (fun hHeld => ?_); clear hK K hKeep; try simp only [pqZ]
          refine rdZ 11 38 rfl (by kernel_rfl) (fun K hK => ?_)
          go_simp
          refine (HG11.out _ hHeld).mono ?_
          rintro e x11 ⟨rfl, rfl⟩
          have hKeep := hHeld
          go_wp2_with fail
          refine hK.out _ _ (by (try dsimp only); exact hKeep) (fun hHeld => ?_); clear hK K hKeep; try simp only [pqZ]
          refine rdZ 14 41 rfl (by kernel_rfl) (fun K hK => ?_)
          go_simp
          refine (HG14.out _ hHeld).mono ?_
          rintro e x14 ⟨rfl, rfl⟩
          have hKeep := hHeld
          go_wp2_with fail
          refine hK.out _ _ (by (try dsimp only); exact hKeep) (fun hHeld => ?_); clear hK K hKeep; try simp only [pqZ]
          refine tkI 15 42 rfl (by intro w hSw; skip; go_simp <;> with_reducible rfl) hHeld ?_; simp only [pqZ]
          refine wpAnyH_ready (rs := [17]) (by kernel_rfl) (by simp) ?_
          refine AllReadyH.cons (o := ⟨none, _, _, _, _, _⟩) rfl (fun K hK => ?_) AllReadyH.nil
          have hHd := hHeld
          skip
          have hKeep := since_alloc hHp (.cells #[.int .i64 n0, .int .i64 n1, .int .i64 n2, .int .i64 n3, .int .i64 n4, .slice none 0 0] 130)
          skip
          go_simp
          refine hK.out _ _ (by (try dsimp only); exact hKeep) (fun hHeld => ?_); clear hK K hKeep; try simp only [pqZ]
          refine wpAnyH_done (by kernel_rfl) ?_ _
          clear hHp
          have hB2 := HB0.out.trans (hHeld.mono HSZ.out)
          have hbx := hHeld
          go_wp2_with fail
          refine (HFIT.out _).mono ?_
          rintro e v2 ⟨rfl, hb2⟩
          have hB3 := hB2.trans (hb2.mono (Nat.le_trans HSZ.out hHeld.size))
          obtain ⟨y0, y1, y2, y3, y4, y5⟩ := HBX.out _ hB3
          obtain ⟨hfz, hglt⟩ := HFZ.out _ hB3
          have hBw2 : Below w.heap.size w v2 := ((Below.refl _ w).alloc (Nat.le_refl _) _).trans (hB3.mono (Nat.le_succ _))
          go_wp2_with fail
          refine bodyPost_ret (v := .tuple #[.agg #[.int .i64 0, .int .i64 0, .int .i64 0, .int .i64 0, .int .i64 0, .slice none 0 0], .int .i64 3]) ?_ rfl ⟨DRes.no _ _, ?_⟩
          · simp [results, Try.results92, go_sem, cell_set, y0, y1, y2, y3, y4, y5]
          · exact Below.setCell (Below.setCell (Below.setCell (Below.setCell (Below.setCell (Below.setCell hBw2 (Nat.le_refl _) _) (Nat.le_refl _) _) (Nat.le_refl _) _) (Nat.le_refl _) _) (Nat.le_refl _) _) (Nat.le_refl _) _
      · have hHd := hHeld
        skip
        have hHp := hHeld
        have hKeep := since_alloc hHeld (.cells #[.int .i64 0, .int .i64 0, .int .i64 0, .int .i64 0, .int .i64 0, .slice none 0 0] 130)
        go_simp
        refine hK.out _ _ (by (try dsimp only); exact hKeep) (fun hHeld => ?_); clear hK K hKeep; try simp only [pqZ]
        refine rdZ 8 35 rfl (by kernel_rfl) (fun K hK => ?_)
        go_simp
        refine (HG8.out _ hHeld).mono ?_
        rintro e x8 ⟨rfl, rfl⟩
        have hKeep := hHeld
        go_wp2_with fail
        refine hK.out _ _ (by (try dsimp only); exact hKeep) (fun hHeld => ?_); clear hK K hKeep; try simp only [pqZ]
        refine rdZ 11 38 rfl (by kernel_rfl) (fun K hK => ?_)
        go_simp
        refine (HG11.out _ hHeld).mono ?_
        rintro e x11 ⟨rfl, rfl⟩
        have hKeep := hHeld
        go_wp2_with fail
        refine hK.out _ _ (by (try dsimp only); exact hKeep) (fun hHeld => ?_); clear hK K hKeep; try simp only [pqZ]
        refine rdZ 14 41 rfl (by kernel_rfl) (fun K hK => ?_)
        go_simp
        refine (HG14.out _ hHeld).mono ?_
        rintro e x14 ⟨rfl, rfl⟩
        have hKeep := hHeld
        go_wp2_with fail
        refine hK.out _ _ (by (try dsimp only); exact hKeep) (fun hHeld => ?_); clear hK K hKeep; try simp only [pqZ]
        refine tkI 15 42 rfl (by intro w hSw; skip; go_simp <;> with_reducible rfl) hHeld ?_; simp only [pqZ]
        refine wpAnyH_ready (rs := [17]) (by kernel_rfl) (by simp) ?_
        refine AllReadyH.cons (o := ⟨none, _, _, _, _, _⟩) rfl (fun K hK => ?_) AllReadyH.nil
        have hHd := hHeld
        skip
        have hKeep := since_alloc hHp (.cells #[.int .i64 n0, .int .i64 n1, .int .i64 n2, .int .i64 n3, .int .i64 n4, .slice none 0 0] 130)
        skip
        go_simp
        refine hK.out _ _ (by (try dsimp only); exact hKeep) (fun hHeld => ?_); clear hK K hKeep; try simp only [pqZ]
        refine wpAnyH_done (by kernel_rfl) ?_ _
        clear hHp
        have hB2 := HB0.out.trans (hHeld.mono HSZ.out)
        have hbx := hHeld
        go_wp2_with fail
        refine (HFIT.out _).mono ?_
        rintro e v2 ⟨rfl, hb2⟩
        have hB3 := hB2.trans (hb2.mono (Nat.le_trans HSZ.out hHeld.size))
        obtain ⟨y0, y1, y2, y3, y4, y5⟩ := HBX.out _ hB3
        obtain ⟨hfz, hglt⟩ := HFZ.out _ hB3
        have hBw2 : Below w.heap.size w v2 := ((Below.refl _ w).alloc (Nat.le_refl _) _).trans (hB3.mono (Nat.le_succ _))
        go_wp2_with fail
        refine bodyPost_ret (v := .tuple #[.agg #[.int .i64 0, .int .i64 0, .int .i64 0, .int .i64 0, .int .i64 0, .slice none 0 0], .int .i64 3]) ?_ rfl ⟨DRes.no _ _, ?_⟩
        · simp [results, Try.results92, go_sem, cell_set, y0, y1, y2, y3, y4, y5]
        · exact Below.setCell (Below.setCell (Below.setCell (Below.setCell (Below.setCell (Below.setCell hBw2 (Nat.le_refl _) _) (Nat.le_refl _) _) (Nat.le_refl _) _) (Nat.le_refl _) _) (Nat.le_refl _) _) (Nat.le_refl _) _
    · have hHd := hHeld
      skip
      have hHp := hHeld
      have hKeep := since_alloc hHeld (.cells #[.int .i64 0, .int .i64 0, .int .i64 0, .int .i64 0, .int .i64 0, .slice none 0 0] 130)
      go_simp
      refine hK.out _ _ (by (try dsimp only); exact hKeep) (fun hHeld => ?_); clear hK K hKeep; try simp only [pqZ]
      refine rdZ 5 32 rfl (by kernel_rfl) (fun K hK => ?_)
      go_simp
      refine (HG5.out _ hHeld).mono ?_
      rintro e x5 ⟨rfl, rfl⟩
      have hKeep := hHeld
      go_wp2_with fail
      refine hK.out _ _ (by (try dsimp only); exact hKeep) (fun hHeld => ?_); clear hK K hKeep; try simp only [pqZ]
      refine rdZ 8 35 rfl (by kernel_rfl) (fun K hK => ?_)
      go_simp
      refine (HG8.out _ hHeld).mono ?_
      rintro e x8 ⟨rfl, rfl⟩
      have hKeep := hHeld
      go_wp2_with fail
      refine hK.out _ _ (by (try dsimp only); exact hKeep) (fun hHeld => ?_); clear hK K hKeep; try simp only [pqZ]
      refine rdZ 11 38 rfl (by kernel_rfl) (fun K hK => ?_)
      go_simp
      refine (HG11.out _ hHeld).mono ?_
      rintro e x11 ⟨rfl, rfl⟩
      have hKeep := hHeld
      go_wp2_with fail
      refine hK.out _ _ (by (try dsimp only); exact hKeep) (fun hHeld => ?_); clear hK K hKeep; try simp only [pqZ]
      refine rdZ 14 41 rfl (by kernel_rfl) (fun K hK => ?_)
      go_simp
      refine (HG14.out _ hHeld).mono ?_
      rintro e x14 ⟨rfl, rfl⟩
      have hKeep := hHeld
      go_wp2_with fail
      refine hK.out _ _ (by (try dsimp only); exact hKeep) (fun hHeld => ?_); clear hK K hKeep; try simp only [pqZ]
      refine tkI 15 42 rfl (by intro w hSw; skip; go_simp <;> with_reducible rfl) hHeld ?_; simp only [pqZ]
      refine wpAnyH_ready (rs := [17]) (by kernel_rfl) (by simp) ?_
      refine AllReadyH.cons (o := ⟨none, _, _, _, _, _⟩) rfl (fun K hK => ?_) AllReadyH.nil
      have hHd := hHeld
      skip
      have hKeep := since_alloc hHp (.cells #[.int .i64 n0, .int .i64 n1, .int .i64 n2, .int .i64 n3, .int .i64 n4, .slice none 0 0] 130)
      skip
      go_simp
      refine hK.out _ _ (by (try dsimp only); exact hKeep) (fun hHeld => ?_); clear hK K hKeep; try simp only [pqZ]
      refine wpAnyH_done (by kernel_rfl) ?_ _
      clear hHp
      have hB2 := HB0.out.trans (hHeld.mono HSZ.out)
      have hbx := hHeld
      go_wp2_with fail
      refine (HFIT.out _).mono ?_
      rintro e v2 ⟨rfl, hb2⟩
      have hB3 := hB2.trans (hb2.mono (Nat.le_trans HSZ.out hHeld.size))
      obtain ⟨y0, y1, y2, y3, y4, y5⟩ := HBX.out _ hB3
      obtain ⟨hfz, hglt⟩ := HFZ.out _ hB3
      have hBw2 : Below w.heap.size w v2 := ((Below.refl _ w).alloc (Nat.le_refl _) _).trans (hB3.mono (Nat.le_succ _))
      go_wp2_with fail
      refine bodyPost_ret (v := .tuple #[.agg #[.int .i64 0, .int .i64 0, .int .i64 0, .int .i64 0, .int .i64 0, .slice none 0 0], .int .i64 3]) ?_ rfl ⟨DRes.no _ _, ?_⟩
      · simp [results, Try.results92, go_sem, cell_set, y0, y1, y2, y3, y4, y5]
      · exact Below.setCell (Below.setCell (Below.setCell (Below.setCell (Below.setCell (Below.setCell hBw2 (Nat.le_refl _) _) (Nat.le_refl _) _) (Nat.le_refl _) _) (Nat.le_refl _) _) (Nat.le_refl _) _) (Nat.le_refl _) _
  · have hHd := hHeld
    skip
    have hHp := hHeld
    have hKeep := since_alloc hHeld (.cells #[.int .i64 0, .int .i64 0, .int .i64 0, .int .i64 0, .int .i64 0, .slice none 0 0] 130)
    go_simp
    refine hK.out _ _ (by (try dsimp only); exact hKeep) (fun hHeld => ?_); clear hK K hKeep; try simp only [pqZ]
    refine rdZ 2 29 rfl (by kernel_rfl) (fun K hK => ?_)
    go_simp
    refine (HG2.out _ hHeld).mono ?_
    rintro e x2 ⟨rfl, rfl⟩
    have hKeep := hHeld
    go_wp2_with fail
    refine hK.out _ _ (by (try dsimp only); exact hKeep) (fun hHeld => ?_); clear hK K hKeep; try simp only [pqZ]
    refine rdZ 5 32 rfl (by kernel_rfl) (fun K hK => ?_)
    go_simp
    refine (HG5.out _ hHeld).mono ?_
    rintro e x5 ⟨rfl, rfl⟩
    have hKeep := hHeld
    go_wp2_with fail
    refine hK.out _ _ (by (try dsimp only); exact hKeep) (fun hHeld => ?_); clear hK K hKeep; try simp only [pqZ]
    refine rdZ 8 35 rfl (by kernel_rfl) (fun K hK => ?_)
    go_simp
    refine (HG8.out _ hHeld).mono ?_
    rintro e x8 ⟨rfl, rfl⟩
    have hKeep := hHeld
    go_wp2_with fail
    refine hK.out _ _ (by (try dsimp only); exact hKeep) (fun hHeld => ?_); clear hK K hKeep; try simp only [pqZ]
    refine rdZ 11 38 rfl (by kernel_rfl) (fun K hK => ?_)
    go_simp
    refine (HG11.out _ hHeld).mono ?_
    rintro e x11 ⟨rfl, rfl⟩
    have hKeep := hHeld
    go_wp2_with fail
    refine hK.out _ _ (by (try dsimp only); exact hKeep) (fun hHeld => ?_); clear hK K hKeep; try simp only [pqZ]
    refine rdZ 14 41 rfl (by kernel_rfl) (fun K hK => ?_)
    go_simp
    refine (HG14.out _ hHeld).mono ?_
    rintro e x14 ⟨rfl, rfl⟩
    have hKeep := hHeld
    go_wp2_with fail
    refine hK.out _ _ (by (try dsimp only); exact hKeep) (fun hHeld => ?_); clear hK K hKeep; try simp only [pqZ]
    refine tkI 15 42 rfl (by intro w hSw; skip; go_simp <;> with_reducible rfl) hHeld ?_; simp only [pqZ]
    refine wpAnyH_ready (rs := [17]) (by kernel_rfl) (by simp) ?_
    refine AllReadyH.cons (o := ⟨none, _, _, _, _, _⟩) rfl (fun K hK => ?_) AllReadyH.nil
    have hHd := hHeld
    skip
    have hKeep := since_alloc hHp (.cells #[.int .i64 n0, .int .i64 n1, .int .i64 n2, .int .i64 n3, .int .i64 n4, .slice none 0 0] 130)
    skip
    go_simp
    refine hK.out _ _ (by (try dsimp only); exact hKeep) (fun hHeld => ?_); clear hK K hKeep; try simp only [pqZ]
    refine wpAnyH_done (by kernel_rfl) ?_ _
    clear hHp
    have hB2 := HB0.out.trans (hHeld.mono HSZ.out)
    have hbx := hHeld
    go_wp2_with fail
    refine (HFIT.out _).mono ?_
    rintro e v2 ⟨rfl, hb2⟩
    have hB3 := hB2.trans (hb2.mono (Nat.le_trans HSZ.out hHeld.size))
    obtain ⟨y0, y1, y2, y3, y4, y5⟩ := HBX.out _ hB3
    obtain ⟨hfz, hglt⟩ := HFZ.out _ hB3
    have hBw2 : Below w.heap.size w v2 := ((Below.refl _ w).alloc (Nat.le_refl _) _).trans (hB3.mono (Nat.le_succ _))
    go_wp2_with fail
    refine bodyPost_ret (v := .tuple #[.agg #[.int .i64 0, .int .i64 0, .int .i64 0, .int .i64 0, .int .i64 0, .slice none 0 0], .int .i64 3]) ?_ rfl ⟨DRes.no _ _, ?_⟩
    · simp [results, Try.results92, go_sem, cell_set, y0, y1, y2, y3, y4, y5]
    · exact Below.setCell (Below.setCell (Below.setCell (Below.setCell (Below.setCell (Below.setCell hBw2 (Nat.le_refl _) _) (Nat.le_refl _) _) (Nat.le_refl _) _) (Nat.le_refl _) _) (Nat.le_refl _) _) (Nat.le_refl _) _
theorem fdec7_bad (b o c : Nat) (l : List Nat) (w : World) (h96 : l.length = 96) (hc : 96 ≤ c) (hcm : c ≤ maxLen) (hs : Sl w (some ⟨b, o, none⟩) (by8 l)) (ho : Oct l) (hd : l.getD 12 0 ≤ 80) (hz : blankF (seg l (13 + l.getD 12 0) (80 - l.getD 12 0)) = true) (hok : (cand l).ok = true) (hne : sealed (cand l).body ≠ l) :
    Calls Try.prog 92 #[.slice (some ⟨b, o, none⟩) 96 c] w fun e w' => DRes w.heap.size w' e (Fr0, 3) ∧ Below w.heap.size w w' := by
  obtain ⟨n0, hn0⟩ : ∃ n : Int, ((bnum (seg l 0 3) : Nat) : Int) = n := ⟨_, rfl⟩
  obtain ⟨n1, hn1⟩ : ∃ n : Int, ((bnum (seg l 3 3) : Nat) : Int) = n := ⟨_, rfl⟩
  obtain ⟨n2, hn2⟩ : ∃ n : Int, ((bnum (seg l 6 4) : Nat) : Int) = n := ⟨_, rfl⟩
  obtain ⟨n3, hn3⟩ : ∃ n : Int, ((bnum (seg l 10 1) : Nat) : Int) = n := ⟨_, rfl⟩
  obtain ⟨n4, hn4⟩ : ∃ n : Int, ((bnum (seg l 11 1) : Nat) : Int) = n := ⟨_, rfl⟩
  have hok0 := cand_ok0 h96 hd
  rw [hok, hn0, hn1, hn2, hn3, hn4] at hok0
  have HFIT := Lib.hid (fun V => fit7_any ⟨n0, n1, n2, n3, n4, []⟩ none 0 V)
  simp only [Fr.val, List.length_nil] at HFIT
  rw [hok0] at HFIT
  clear hok0
  obtain ⟨p, q, r, hpq⟩ := cell_split h96
  have hopn : ∀ V, Sl V (some ⟨b, o, none⟩) (by8 l) → Calls Try.prog 101 #[.slice (some ⟨b, o, none⟩) 96 c] V fun e w' => ∃ A' c', e = .returned (.tuple #[.slice A' 93 c', .bool false]) ∧ w'.ownsRow V.heap.size 5 1 (.slice A' 93 c') 93 (by8 (l.take 93)) ∧ Below V.heap.size V w' := fun V hV => by
    have h93 : (l.take 93).length = 93 := by rw [List.length_take]; omega
    have h := open_any (some ⟨b, o, none⟩) c (l.take 93) p q r V (by omega) (by rw [← hpq]; exact hV) (by rw [← hpq]; exact ho)
    rw [h93] at h
    have hdec : decide (p * 65536 + q * 256 + r = CrcM.more 11994318 (l.take 93)) = false := by
      have hcb := cand_body_blank h96 ho hd hz
      refine decide_eq_false fun e => hne ?_
      have ho3 : Oct [p, q, r] := fun x hx => ho x (by rw [hpq]; exact List.mem_append_right _ hx)
      have := three_eq (ho3 p (by simp)) (ho3 q (by simp)) (ho3 r (by simp)) e
      rw [hcb]
      unfold sealed
      rw [← this, ← hpq]
    rw [hdec] at h
    exact h
  have HOP := Lib.hid hopn
  clear hopn
  obtain ⟨d, hd0⟩ : ∃ d, l.getD 12 0 = d := ⟨_, rfl⟩
  have hcd : w.cell? ⟨b, o + 12, none⟩ = some (.int .u8 (d : Int)) := by
    obtain ⟨_, _, e, h⟩ := hs.byte (j := 12) (by omega)
    injection e with e; injection e with e1 e2; subst e1; subst e2
    rw [h, ← hd0, List.getD_eq_getElem?_getD, List.getElem?_eq_getElem (by omega)]
    rfl
  rw [hd0] at hd hz 
  have hd2 : ¬ (d : Int) > 80 := by omega
  have hblt : b < w.heap.size := World.block_lt_of_cell? _ _ hcd
  have hq1 : (13 : Int) + (d : Int) ≤ 93 := by omega
  have hq2 : (0 : Int) ≤ 13 + (d : Int) := by omega
  have hq3 : (93 : Int) ≤ (c : Int) := by omega
  have hsl := (hs.alloc (.cells #[.int .i64 0, .int .i64 0, .int .i64 0, .int .i64 0, .int .i64 0, .slice none 0 0] 130))
  have hbl := blank7_any (some ⟨b, o + (13 + d), none⟩) (c - (13 + d)) (seg l (13 + d) (80 - d)) (w.alloc (.cells #[.int .i64 0, .int .i64 0, .int .i64 0, .int .i64 0, .int .i64 0, .slice none 0 0] 130)) (by rw [seg_len (by omega)]; omega) (hsl.seg _ _)
  rw [seg_len (by omega), hz, show 80 - d = 93 - (13 + d) by omega] at hbl
  have HBL := Lib.hid hbl
  have HBX := Lib.hid (fun V (hV : Below (w.heap.size + 1) (w.alloc (.cells #[.int .i64 0, .int .i64 0, .int .i64 0, .int .i64 0, .int .i64 0, .slice none 0 0] 130)) V) => box6 (V := V) (by rw [World.size_alloc]; exact hV))
  have HFZ : Hid (∀ V, Below (w.heap.size + 1) (w.alloc (.cells #[.int .i64 0, .int .i64 0, .int .i64 0, .int .i64 0, .int .i64 0, .slice none 0 0] 130)) V → (∀ i, V.frozen? ⟨w.heap.size, i, none⟩ = false) ∧ w.heap.size < V.heap.size) := Lib.hid fun V hV => ⟨fun i => by rw [hV.frozen (p := ⟨w.heap.size, i, none⟩) (Nat.lt_succ_self w.heap.size)]; exact frozen_new w _ _ i, by have := hV.size; rw [World.size_alloc] at this; omega⟩
  have HSW := Lib.hid hs
  have H96 := Lib.hid h96
  have HD0 := Lib.hid hd0
  clear hbl hz hd0 hs hsl h96
  go_enter Try.func92, Try.ntmps92
  go_wp2_with fail
  refine HBL.out.mono ?_
  rintro e v1 ⟨rfl, hB⟩
  rw [World.size_alloc] at hB
  have HB0 := Lib.hid hB
  have HSZ : Hid (w.heap.size + 1 ≤ v1.heap.size) := Lib.hid (by have := hB.size; rw [World.size_alloc] at this; exact this)
  have HNE : Hid (¬ v1.heap.size = w.heap.size ∧ ¬ w.heap.size = v1.heap.size) := Lib.hid (by have := HSZ.out; omega)
  have hBw : Below w.heap.size w v1 := ((Below.refl _ w).alloc (Nat.le_refl _) _).trans (hB.mono (Nat.le_succ _))
  have HSL := Lib.hid (HSW.out.below hBw)
  have h96 := H96.out
  have HG2 : Hid (∀ V, Below v1.heap.size v1 V → Calls Try.prog 100 #[.slice (some ⟨b, o, none⟩) 3 (c)] V fun e w' => e = .returned (.int .i64 n0) ∧ V = w') := Lib.hid fun V hV => by
    have h := get7_any (some ⟨b, o + 0, none⟩) (c) (seg l 0 3) V (by rw [seg_len (by omega)]; omega) (seg_oct ho _ _) ((HSL.out.below hV).seg _ _)
    rw [seg_len (by omega), hn0] at h
    exact h
  have HG5 : Hid (∀ V, Below v1.heap.size v1 V → Calls Try.prog 100 #[.slice (some ⟨b, o + 3, none⟩) 3 (c - 3)] V fun e w' => e = .returned (.int .i64 n1) ∧ V = w') := Lib.hid fun V hV => by
    have h := get7_any (some ⟨b, o + 3, none⟩) (c - 3) (seg l 3 3) V (by rw [seg_len (by omega)]; omega) (seg_oct ho _ _) ((HSL.out.below hV).seg _ _)
    rw [seg_len (by omega), hn1] at h
    exact h
  have HG8 : Hid (∀ V, Below v1.heap.size v1 V → Calls Try.prog 100 #[.slice (some ⟨b, o + 6, none⟩) 4 (c - 6)] V fun e w' => e = .returned (.int .i64 n2) ∧ V = w') := Lib.hid fun V hV => by
    have h := get7_any (some ⟨b, o + 6, none⟩) (c - 6) (seg l 6 4) V (by rw [seg_len (by omega)]; omega) (seg_oct ho _ _) ((HSL.out.below hV).seg _ _)
    rw [seg_len (by omega), hn2] at h
    exact h
  have HG11 : Hid (∀ V, Below v1.heap.size v1 V → Calls Try.prog 100 #[.slice (some ⟨b, o + 10, none⟩) 1 (c - 10)] V fun e w' => e = .returned (.int .i64 n3) ∧ V = w') := Lib.hid fun V hV => by
    have h := get7_any (some ⟨b, o + 10, none⟩) (c - 10) (seg l 10 1) V (by rw [seg_len (by omega)]; omega) (seg_oct ho _ _) ((HSL.out.below hV).seg _ _)
    rw [seg_len (by omega), hn3] at h
    exact h
  have HG14 : Hid (∀ V, Below v1.heap.size v1 V → Calls Try.prog 100 #[.slice (some ⟨b, o + 11, none⟩) 1 (c - 11)] V fun e w' => e = .returned (.int .i64 n4) ∧ V = w') := Lib.hid fun V hV => by
    have h := get7_any (some ⟨b, o + 11, none⟩) (c - 11) (seg l 11 1) V (by rw [seg_len (by omega)]; omega) (seg_oct ho _ _) ((HSL.out.below hV).seg _ _)
    rw [seg_len (by omega), hn4] at h
    exact h
  clear h96 hB hBw
  have hc3 : (3 : Int) ≤ (c : Int) ∧ (6 : Int) ≤ (c : Int) ∧ (10 : Int) ≤ (c : Int) ∧ (11 : Int) ≤ (c : Int) ∧ (12 : Int) ≤ (c : Int) := by omega
  have hc4 : ¬ c = 3 ∧ ¬ c = 6 ∧ ¬ c = 10 ∧ ¬ c = 11 := by omega
  obtain ⟨hc30, hc31, hc32, hc33, hc34⟩ := hc3
  obtain ⟨hc40, hc41, hc42, hc43⟩ := hc4
  go_wp2_with fail
  refine wp_region_held_drew (S := (fun V' => Below v1.heap.size v1 V')) (by kernel_rfl) (by exact (Below.refl _ _).drew) (fun hHeld => ?_)
  refine tkI 0 27 rfl (by intro w hSw; skip; go_simp <;> with_reducible rfl) hHeld ?_; simp only [pqZ]
  refine tkI 1 28 rfl (by intro w hSw; skip; go_simp <;> with_reducible rfl) hHeld ?_; simp only [pqZ]
  refine tkI 3 30 rfl (by intro w hSw; skip; go_simp <;> with_reducible rfl) hHeld ?_; simp only [pqZ]
  refine tkI 4 31 rfl (by intro w hSw; skip; go_simp <;> with_reducible rfl) hHeld ?_; simp only [pqZ]
  refine tkI 6 33 rfl (by intro w hSw; skip; go_simp <;> with_reducible rfl) hHeld ?_; simp only [pqZ]
  refine tkI 7 34 rfl (by intro w hSw; skip; go_simp <;> with_reducible rfl) hHeld ?_; simp only [pqZ]
  refine tkI 9 36 rfl (by intro w hSw; skip; go_simp <;> with_reducible rfl) hHeld ?_; simp only [pqZ]
  refine tkI 10 37 rfl (by intro w hSw; skip; go_simp <;> with_reducible rfl) hHeld ?_; simp only [pqZ]
  refine tkI 12 39 rfl (by intro w hSw; skip; go_simp <;> with_reducible rfl) hHeld ?_; simp only [pqZ]
  refine tkI 13 40 rfl (by intro w hSw; skip; go_simp <;> with_reducible rfl) hHeld ?_; simp only [pqZ]
  refine wpAnyH_ready (rs := [2, 16]) (by kernel_rfl) (by simp) ?_
  refine AllReadyH.cons (o := ⟨some 29, _, _, _, _, _⟩) rfl (fun K hK => ?_) (AllReadyH.cons (o := ⟨some 5, _, _, _, _, _⟩) rfl (fun K hK => ?_) AllReadyH.nil)
  · go_simp
    refine (HG2.out _ hHeld).mono ?_
    rintro e x2 ⟨rfl, rfl⟩
    have hKeep := hHeld
    go_wp2_with fail
    refine hK.out _ _ (by (try dsimp only); exact hKeep) (fun hHeld => ?_); clear hK K hKeep; try simp only [pqZ]
    refine wpAnyH_ready (rs := [5, 16]) (by kernel_rfl) (by simp) ?_
    refine AllReadyH.cons (o := ⟨some 32, _, _, _, _, _⟩) rfl (fun K hK => ?_) (AllReadyH.cons (o := ⟨some 5, _, _, _, _, _⟩) rfl (fun K hK => ?_) AllReadyH.nil)
    · go_simp
      refine (HG5.out _ hHeld).mono ?_
      rintro e x5 ⟨rfl, rfl⟩
      have hKeep := hHeld
      go_wp2_with fail
      refine hK.out _ _ (by (try dsimp only); exact hKeep) (fun hHeld => ?_); clear hK K hKeep; try simp only [pqZ]
      refine wpAnyH_ready (rs := [8, 16]) (by kernel_rfl) (by simp) ?_
      refine AllReadyH.cons (o := ⟨some 35, _, _, _, _, _⟩) rfl (fun K hK => ?_) (AllReadyH.cons (o := ⟨some 5, _, _, _, _, _⟩) rfl (fun K hK => ?_) AllReadyH.nil)
      · go_simp
        refine (HG8.out _ hHeld).mono ?_
        rintro e x8 ⟨rfl, rfl⟩
        have hKeep := hHeld
        go_wp2_with fail
        refine hK.out _ _ (by (try dsimp only); exact hKeep) (fun hHeld => ?_); clear hK K hKeep; try simp only [pqZ]
        refine wpAnyH_ready (rs := [11, 16]) (by kernel_rfl) (by simp) ?_
        refine AllReadyH.cons (o := ⟨some 38, _, _, _, _, _⟩) rfl (fun K hK => ?_) (AllReadyH.cons (o := ⟨some 5, _, _, _, _, _⟩) rfl (fun K hK => ?_) AllReadyH.nil)
        · go_simp
          refine (HG11.out _ hHeld).mono ?_
          rintro e x11 ⟨rfl, rfl⟩
          have hKeep := hHeld
          go_wp2_with fail
          refine hK.out _ _ (by (try dsimp only); exact hKeep) (fun hHeld => ?_); clear hK K hKeep; try simp only [pqZ]
          refine wpAnyH_ready (rs := [14, 16]) (by kernel_rfl) (by simp) ?_
          refine AllReadyH.cons (o := ⟨some 41, _, _, _, _, _⟩) rfl (fun K hK => ?_) (AllReadyH.cons (o := ⟨some 5, _, _, _, _, _⟩) rfl (fun K hK => ?_) AllReadyH.nil)
          · go_simp
            refine (HG14.out _ hHeld).mono ?_
            rintro e x14 ⟨rfl, rfl⟩
            have hKeep := hHeld
            go_wp2_with fail
            refine hK.out _ _ (by (try dsimp only); exact hKeep) (fun hHeld => ?_); clear hK K hKeep; try simp only [pqZ]
            refine tkI 15 42 rfl (by intro w hSw; skip; go_simp <;> with_reducible rfl) hHeld ?_; simp only [pqZ]
            refine rdZ 16 5 rfl (by kernel_rfl) (fun K hK => ?_)
            have hHd := hHeld
            skip
            have hHp := hHeld
            have hKeep := since_alloc hHeld (.cells #[.int .i64 0, .int .i64 0, .int .i64 0, .int .i64 0, .int .i64 0, .slice none 0 0] 130)
            go_simp
            refine hK.out _ _ (by (try dsimp only); exact hKeep) (fun hHeld => ?_); clear hK K hKeep; try simp only [pqZ]
            refine wpAnyH_ready (rs := [17]) (by kernel_rfl) (by simp) ?_
            refine AllReadyH.cons (o := ⟨none, _, _, _, _, _⟩) rfl (fun K hK => ?_) AllReadyH.nil
            have hHd := hHeld
            skip
            have hKeep := since_alloc hHp (.cells #[.int .i64 n0, .int .i64 n1, .int .i64 n2, .int .i64 n3, .int .i64 n4, .slice none 0 0] 130)
            skip
            go_simp
            refine hK.out _ _ (by (try dsimp only); exact hKeep) (fun hHeld => ?_); clear hK K hKeep; try simp only [pqZ]
            refine wpAnyH_done (by kernel_rfl) ?_ _
            clear hHp
            have hB2 := HB0.out.trans (hHeld.mono HSZ.out)
            have hbx := hHeld
            go_wp2_with fail
            refine (HFIT.out _).mono ?_
            rintro e v2 ⟨rfl, hb2⟩
            have hB3 := hB2.trans (hb2.mono (Nat.le_trans HSZ.out hHeld.size))
            have hS3 := Nat.le_trans (Nat.le_trans HSZ.out hHeld.size) hb2.size
            have hSl := HSL.out.below (hHeld.trans (hb2.mono hHeld.size))
            go_wp2_with fail
            refine (HOP.out _ hSl).mono ?_
            rintro e v3 ⟨A3, c3, rfl, own3, hb3⟩
            have hB4 := hB3.trans (hb3.mono hS3)
            clear hb3
            obtain ⟨y0, y1, y2, y3, y4, y5⟩ := HBX.out _ hB4
            obtain ⟨hfz, hglt⟩ := HFZ.out _ hB4
            have hBw2 : Below w.heap.size w v3 := ((Below.refl _ w).alloc (Nat.le_refl _) _).trans (hB4.mono (Nat.le_succ _))
            go_wp2_with fail
            refine bodyPost_ret (v := .tuple #[.agg #[.int .i64 0, .int .i64 0, .int .i64 0, .int .i64 0, .int .i64 0, .slice none 0 0], .int .i64 3]) ?_ rfl ⟨DRes.no _ _, ?_⟩
            · simp [results, Try.results92, go_sem, cell_set, y0, y1, y2, y3, y4, y5]
            · exact Below.setCell (Below.setCell (Below.setCell (Below.setCell (Below.setCell (Below.setCell hBw2 (Nat.le_refl _) _) (Nat.le_refl _) _) (Nat.le_refl _) _) (Nat.le_refl _) _) (Nat.le_refl _) _) (Nat.le_refl _) _
          · have hHd := hHeld
            skip
            have hHp := hHeld
            have hKeep := since_alloc hHeld (.cells #[.int .i64 0, .int .i64 0, .int .i64 0, .int .i64 0, .int .i64 0, .slice none 0 0] 130)
            go_simp
            refine hK.out _ _ (by (try dsimp only); exact hKeep) (fun hHeld => ?_); clear hK K hKeep; try simp only [pqZ]
            refine rdZ 14 41 rfl (by kernel_rfl) (fun K hK => ?_)
            go_simp
            refine (HG14.out _ hHeld).mono ?_
            rintro e x14 ⟨rfl, rfl⟩
            have hKeep := hHeld
            go_wp2_with fail
            refine hK.out _ _ (by (try dsimp only); exact hKeep) (fun hHeld => ?_); clear hK K hKeep; try simp only [pqZ]
            refine tkI 15 42 rfl (by intro w hSw; skip; go_simp <;> with_reducible rfl) hHeld ?_; simp only [pqZ]
            refine wpAnyH_ready (rs := [17]) (by kernel_rfl) (by simp) ?_
            refine AllReadyH.cons (o := ⟨none, _, _, _, _, _⟩) rfl (fun K hK => ?_) AllReadyH.nil
            have hHd := hHeld
            skip
            have hKeep := since_alloc hHp (.cells #[.int .i64 n0, .int .i64 n1, .int .i64 n2, .int .i64 n3, .int .i64 n4, .slice none 0 0] 130)
            skip
            go_simp
            refine hK.out _ _ (by (try dsimp only); exact hKeep) (fun hHeld => ?_); clear hK K hKeep; try simp only [pqZ]
            refine wpAnyH_done (by kernel_rfl) ?_ _
            clear hHp
            have hB2 := HB0.out.trans (hHeld.mono HSZ.out)
            have hbx := hHeld
            go_wp2_with fail
            refine (HFIT.out _).mono ?_
            rintro e v2 ⟨rfl, hb2⟩
            have hB3 := hB2.trans (hb2.mono (Nat.le_trans HSZ.out hHeld.size))
            have hS3 := Nat.le_trans (Nat.le_trans HSZ.out hHeld.size) hb2.size
            have hSl := HSL.out.below (hHeld.trans (hb2.mono hHeld.size))
            go_wp2_with fail
            refine (HOP.out _ hSl).mono ?_
            rintro e v3 ⟨A3, c3, rfl, own3, hb3⟩
            have hB4 := hB3.trans (hb3.mono hS3)
            clear hb3
            obtain ⟨y0, y1, y2, y3, y4, y5⟩ := HBX.out _ hB4
            obtain ⟨hfz, hglt⟩ := HFZ.out _ hB4
            have hBw2 : Below w.heap.size w v3 := ((Below.refl _ w).alloc (Nat.le_refl _) _).trans (hB4.mono (Nat.le_succ _))
            go_wp2_with fail
            refine bodyPost_ret (v := .tuple #[.agg #[.int .i64 0, .int .i64 0, .int .i64 0, .int .i64 0, .int .i64 0, .slice none 0 0], .int .i64 3]) ?_ rfl ⟨DRes.no _ _, ?_⟩
            · simp [results, Try.results92, go_sem, cell_set, y0, y1, y2, y3, y4, y5]
            · exact Below.setCell (Below.setCell (Below.setCell (Below.setCell (Below.setCell (Below.setCell hBw2 (Nat.le_refl _) _) (Nat.le_refl _) _) (Nat.le_refl _) _) (Nat.le_refl _) _) (Nat.le_refl _) _) (Nat.le_refl _) _
        · have hHd := hHeld
          skip
          have hHp := hHeld
          have hKeep := since_alloc hHeld (.cells #[.int .i64 0, .int .i64 0, .int .i64 0, .int .i64 0, .int .i64 0, .slice none 0 0] 130)
          go_simp
          refine hK.out _ _ (by (try dsimp only); exact hKeep) (fun hHeld => ?_); clear hK K hKeep; try simp only [pqZ]
          refine rdZ 11 38 rfl (by kernel_rfl) (fun K hK => ?_)
          go_simp
          refine (HG11.out _ hHeld).mono ?_
          rintro e x11 ⟨rfl, rfl⟩
          have hKeep := hHeld
          go_wp2_with fail
          refine hK.out _ _ (by (try dsimp only); exact hKeep) (fun hHeld => ?_); clear hK K hKeep; try simp only [pqZ]
          refine rdZ 14 41 rfl (by kernel_rfl) (fun K hK => ?_)
          go_simp
          refine (HG14.out _ hHeld).mono ?_
          rintro e x14 ⟨rfl, rfl⟩
          have hKeep := hHeld
          go_wp2_with fail
          refine hK.out _ _ (by (try dsimp only); exact hKeep) (fun hHeld => ?_); clear hK K hKeep; try simp only [pqZ]
          refine tkI 15 42 rfl (by intro w hSw; skip; go_simp <;> with_reducible rfl) hHeld ?_; simp only [pqZ]
          refine wpAnyH_ready (rs := [17]) (by kernel_rfl) (by simp) ?_
          refine AllReadyH.cons (o := ⟨none, _, _, _, _, _⟩) rfl (fun K hK => ?_) AllReadyH.nil
          have hHd := hHeld
          skip
          have hKeep := since_alloc hHp (.cells #[.int .i64 n0, .int .i64 n1, .int .i64 n2, .int .i64 n3, .int .i64 n4, .slice none 0 0] 130)
          skip
          go_simp
          refine hK.out _ _ (by (try dsimp only); exact hKeep) (fun hHeld => ?_); clear hK K hKeep; try simp only [pqZ]
          refine wpAnyH_done (by kernel_rfl) ?_ _
          clear hHp
          have hB2 := HB0.out.trans (hHeld.mono HSZ.out)
          have hbx := hHeld
          go_wp2_with fail
          refine (HFIT.out _).mono ?_
          rintro e v2 ⟨rfl, hb2⟩
          have hB3 := hB2.trans (hb2.mono (Nat.le_trans HSZ.out hHeld.size))
          have hS3 := Nat.le_trans (Nat.le_trans HSZ.out hHeld.size) hb2.size
          have hSl := HSL.out.below (hHeld.trans (hb2.mono hHeld.size))
          go_wp2_with fail
          refine (HOP.out _ hSl).mono ?_
          rintro e v3 ⟨A3, c3, rfl, own3, hb3⟩
          have hB4 := hB3.trans (hb3.mono hS3)
          clear hb3
          obtain ⟨y0, y1, y2, y3, y4, y5⟩ := HBX.out _ hB4
          obtain ⟨hfz, hglt⟩ := HFZ.out _ hB4
          have hBw2 : Below w.heap.size w v3 := ((Below.refl _ w).alloc (Nat.le_refl _) _).trans (hB4.mono (Nat.le_succ _))
          go_wp2_with fail
          refine bodyPost_ret (v := .tuple #[.agg #[.int .i64 0, .int .i64 0, .int .i64 0, .int .i64 0, .int .i64 0, .slice none 0 0], .int .i64 3]) ?_ rfl ⟨DRes.no _ _, ?_⟩
          · simp [results, Try.results92, go_sem, cell_set, y0, y1, y2, y3, y4, y5]
          · exact Below.setCell (Below.setCell (Below.setCell (Below.setCell (Below.setCell (Below.setCell hBw2 (Nat.le_refl _) _) (Nat.le_refl _) _) (Nat.le_refl _) _) (Nat.le_refl _) _) (Nat.le_refl _) _) (Nat.le_refl _) _
      · have hHd := hHeld
        skip
        have hHp := hHeld
        have hKeep := since_alloc hHeld (.cells #[.int .i64 0, .int .i64 0, .int .i64 0, .int .i64 0, .int .i64 0, .slice none 0 0] 130)
        go_simp
        refine hK.out _ _ (by (try dsimp only); exact hKeep) (fun hHeld => ?_); clear hK K hKeep; try simp only [pqZ]
        refine rdZ 8 35 rfl (by kernel_rfl) (fun K hK => ?_)
        go_simp
        refine (HG8.out _ hHeld).mono ?_
        rintro e x8 ⟨rfl, rfl⟩
        have hKeep := hHeld
        go_wp2_with fail
        refine hK.out _ _ (by (try dsimp only); exact hKeep) (fun hHeld => ?_); clear hK K hKeep; try simp only [pqZ]
        refine rdZ 11 38 rfl (by kernel_rfl) (fun K hK => ?_)
        go_simp
        refine (HG11.out _ hHeld).mono ?_
        rintro e x11 ⟨rfl, rfl⟩
        have hKeep := hHeld
        go_wp2_with fail
        refine hK.out _ _ (by (try dsimp only); exact hKeep) (fun hHeld => ?_); clear hK K hKeep; try simp only [pqZ]
        refine rdZ 14 41 rfl (by kernel_rfl) (fun K hK => ?_)
        go_simp
        refine (HG14.out _ hHeld).mono ?_
        rintro e x14 ⟨rfl, rfl⟩
        have hKeep := hHeld
        go_wp2_with fail
        refine hK.out _ _ (by (try dsimp only); exact hKeep) (fun hHeld => ?_); clear hK K hKeep; try simp only [pqZ]
        refine tkI 15 42 rfl (by intro w hSw; skip; go_simp <;> with_reducible rfl) hHeld ?_; simp only [pqZ]
        refine wpAnyH_ready (rs := [17]) (by kernel_rfl) (by simp) ?_
        refine AllReadyH.cons (o := ⟨none, _, _, _, _, _⟩) rfl (fun K hK => ?_) AllReadyH.nil
        have hHd := hHeld
        skip
        have hKeep := since_alloc hHp (.cells #[.int .i64 n0, .int .i64 n1, .int .i64 n2, .int .i64 n3, .int .i64 n4, .slice none 0 0] 130)
        skip
        go_simp
        refine hK.out _ _ (by (try dsimp only); exact hKeep) (fun hHeld => ?_); clear hK K hKeep; try simp only [pqZ]
        refine wpAnyH_done (by kernel_rfl) ?_ _
        clear hHp
        have hB2 := HB0.out.trans (hHeld.mono HSZ.out)
        have hbx := hHeld
        go_wp2_with fail
        refine (HFIT.out _).mono ?_
        rintro e v2 ⟨rfl, hb2⟩
        have hB3 := hB2.trans (hb2.mono (Nat.le_trans HSZ.out hHeld.size))
        have hS3 := Nat.le_trans (Nat.le_trans HSZ.out hHeld.size) hb2.size
        have hSl := HSL.out.below (hHeld.trans (hb2.mono hHeld.size))
        go_wp2_with fail
        refine (HOP.out _ hSl).mono ?_
        rintro e v3 ⟨A3, c3, rfl, own3, hb3⟩
        have hB4 := hB3.trans (hb3.mono hS3)
        clear hb3
        obtain ⟨y0, y1, y2, y3, y4, y5⟩ := HBX.out _ hB4
        obtain ⟨hfz, hglt⟩ := HFZ.out _ hB4
        have hBw2 : Below w.heap.size w v3 := ((Below.refl _ w).alloc (Nat.le_refl _) _).trans (hB4.mono (Nat.le_succ _))
        go_wp2_with fail
        refine bodyPost_ret (v := .tuple #[.agg #[.int .i64 0, .int .i64 0, .int .i64 0, .int .i64 0, .int .i64 0, .slice none 0 0], .int .i64 3]) ?_ rfl ⟨DRes.no _ _, ?_⟩
        · simp [results, Try.results92, go_sem, cell_set, y0, y1, y2, y3, y4, y5]
        · exact Below.setCell (Below.setCell (Below.setCell (Below.setCell (Below.setCell (Below.setCell hBw2 (Nat.le_refl _) _) (Nat.le_refl _) _) (Nat.le_refl _) _) (Nat.le_refl _) _) (Nat.le_refl _) _) (Nat.le_refl _) _
    · have hHd := hHeld
      skip
      have hHp := hHeld
      have hKeep := since_alloc hHeld (.cells #[.int .i64 0, .int .i64 0, .int .i64 0, .int .i64 0, .int .i64 0, .slice none 0 0] 130)
      go_simp
      refine hK.out _ _ (by (try dsimp only); exact hKeep) (fun hHeld => ?_); clear hK K hKeep; try simp only [pqZ]
      refine rdZ 5 32 rfl (by kernel_rfl) (fun K hK => ?_)
      go_simp
      refine (HG5.out _ hHeld).mono ?_
      rintro e x5 ⟨rfl, rfl⟩
      have hKeep := hHeld
      go_wp2_with fail
      refine hK.out _ _ (by (try dsimp only); exact hKeep) (fun hHeld => ?_); clear hK K hKeep; try simp only [pqZ]
      refine rdZ 8 35 rfl (by kernel_rfl) (fun K hK => ?_)
      go_simp
      refine (HG8.out _ hHeld).mono ?_
      rintro e x8 ⟨rfl, rfl⟩
      have hKeep := hHeld
      go_wp2_with fail
      refine hK.out _ _ (by (try dsimp only); exact hKeep) (fun hHeld => ?_); clear hK K hKeep; try simp only [pqZ]
      refine rdZ 11 38 rfl (by kernel_rfl) (fun K hK => ?_)
      go_simp
      refine (HG11.out _ hHeld).mono ?_
      rintro e x11 ⟨rfl, rfl⟩
      have hKeep := hHeld
      go_wp2_with fail
      refine hK.out _ _ (by (try dsimp only); exact hKeep) (fun hHeld => ?_); clear hK K hKeep; try simp only [pqZ]
      refine rdZ 14 41 rfl (by kernel_rfl) (fun K hK => ?_)
      go_simp
      refine (HG14.out _ hHeld).mono ?_
      rintro e x14 ⟨rfl, rfl⟩
      have hKeep := hHeld
      go_wp2_with fail
      refine hK.out _ _ (by (try dsimp only); exact hKeep) (fun hHeld => ?_); clear hK K hKeep; try simp only [pqZ]
      refine tkI 15 42 rfl (by intro w hSw; skip; go_simp <;> with_reducible rfl) hHeld ?_; simp only [pqZ]
      refine wpAnyH_ready (rs := [17]) (by kernel_rfl) (by simp) ?_
      refine AllReadyH.cons (o := ⟨none, _, _, _, _, _⟩) rfl (fun K hK => ?_) AllReadyH.nil
      have hHd := hHeld
      skip
      have hKeep := since_alloc hHp (.cells #[.int .i64 n0, .int .i64 n1, .int .i64 n2, .int .i64 n3, .int .i64 n4, .slice none 0 0] 130)
      skip
      go_simp
      refine hK.out _ _ (by (try dsimp only); exact hKeep) (fun hHeld => ?_); clear hK K hKeep; try simp only [pqZ]
      refine wpAnyH_done (by kernel_rfl) ?_ _
      clear hHp
      have hB2 := HB0.out.trans (hHeld.mono HSZ.out)
      have hbx := hHeld
      go_wp2_with fail
      refine (HFIT.out _).mono ?_
      rintro e v2 ⟨rfl, hb2⟩
      have hB3 := hB2.trans (hb2.mono (Nat.le_trans HSZ.out hHeld.size))
      have hS3 := Nat.le_trans (Nat.le_trans HSZ.out hHeld.size) hb2.size
      have hSl := HSL.out.below (hHeld.trans (hb2.mono hHeld.size))
      go_wp2_with fail
      refine (HOP.out _ hSl).mono ?_
      rintro e v3 ⟨A3, c3, rfl, own3, hb3⟩
      have hB4 := hB3.trans (hb3.mono hS3)
      clear hb3
      obtain ⟨y0, y1, y2, y3, y4, y5⟩ := HBX.out _ hB4
      obtain ⟨hfz, hglt⟩ := HFZ.out _ hB4
      have hBw2 : Below w.heap.size w v3 := ((Below.refl _ w).alloc (Nat.le_refl _) _).trans (hB4.mono (Nat.le_succ _))
      go_wp2_with fail
      refine bodyPost_ret (v := .tuple #[.agg #[.int .i64 0, .int .i64 0, .int .i64 0, .int .i64 0, .int .i64 0, .slice none 0 0], .int .i64 3]) ?_ rfl ⟨DRes.no _ _, ?_⟩
      · simp [results, Try.results92, go_sem, cell_set, y0, y1, y2, y3, y4, y5]
      · exact Below.setCell (Below.setCell (Below.setCell (Below.setCell (Below.setCell (Below.setCell hBw2 (Nat.le_refl _) _) (Nat.le_refl _) _) (Nat.le_refl _) _) (Nat.le_refl _) _) (Nat.le_refl _) _) (Nat.le_refl _) _
  · have hHd := hHeld
    skip
    have hHp := hHeld
    have hKeep := since_alloc hHeld (.cells #[.int .i64 0, .int .i64 0, .int .i64 0, .int .i64 0, .int .i64 0, .slice none 0 0] 130)
    go_simp
    refine hK.out _ _ (by (try dsimp only); exact hKeep) (fun hHeld => ?_); clear hK K hKeep; try simp only [pqZ]
    refine rdZ 2 29 rfl (by kernel_rfl) (fun K hK => ?_)
    go_simp
    refine (HG2.out _ hHeld).mono ?_
    rintro e x2 ⟨rfl, rfl⟩
    have hKeep := hHeld
    go_wp2_with fail
    refine hK.out _ _ (by (try dsimp only); exact hKeep) (fun hHeld => ?_); clear hK K hKeep; try simp only [pqZ]
    refine rdZ 5 32 rfl (by kernel_rfl) (fun K hK => ?_)
    go_simp
    refine (HG5.out _ hHeld).mono ?_
    rintro e x5 ⟨rfl, rfl⟩
    have hKeep := hHeld
    go_wp2_with fail
    refine hK.out _ _ (by (try dsimp only); exact hKeep) (fun hHeld => ?_); clear hK K hKeep; try simp only [pqZ]
    refine rdZ 8 35 rfl (by kernel_rfl) (fun K hK => ?_)
    go_simp
    refine (HG8.out _ hHeld).mono ?_
    rintro e x8 ⟨rfl, rfl⟩
    have hKeep := hHeld
    go_wp2_with fail
    refine hK.out _ _ (by (try dsimp only); exact hKeep) (fun hHeld => ?_); clear hK K hKeep; try simp only [pqZ]
    refine rdZ 11 38 rfl (by kernel_rfl) (fun K hK => ?_)
    go_simp
    refine (HG11.out _ hHeld).mono ?_
    rintro e x11 ⟨rfl, rfl⟩
    have hKeep := hHeld
    go_wp2_with fail
    refine hK.out _ _ (by (try dsimp only); exact hKeep) (fun hHeld => ?_); clear hK K hKeep; try simp only [pqZ]
    refine rdZ 14 41 rfl (by kernel_rfl) (fun K hK => ?_)
    go_simp
    refine (HG14.out _ hHeld).mono ?_
    rintro e x14 ⟨rfl, rfl⟩
    have hKeep := hHeld
    go_wp2_with fail
    refine hK.out _ _ (by (try dsimp only); exact hKeep) (fun hHeld => ?_); clear hK K hKeep; try simp only [pqZ]
    refine tkI 15 42 rfl (by intro w hSw; skip; go_simp <;> with_reducible rfl) hHeld ?_; simp only [pqZ]
    refine wpAnyH_ready (rs := [17]) (by kernel_rfl) (by simp) ?_
    refine AllReadyH.cons (o := ⟨none, _, _, _, _, _⟩) rfl (fun K hK => ?_) AllReadyH.nil
    have hHd := hHeld
    skip
    have hKeep := since_alloc hHp (.cells #[.int .i64 n0, .int .i64 n1, .int .i64 n2, .int .i64 n3, .int .i64 n4, .slice none 0 0] 130)
    skip
    go_simp
    refine hK.out _ _ (by (try dsimp only); exact hKeep) (fun hHeld => ?_); clear hK K hKeep; try simp only [pqZ]
    refine wpAnyH_done (by kernel_rfl) ?_ _
    clear hHp
    have hB2 := HB0.out.trans (hHeld.mono HSZ.out)
    have hbx := hHeld
    go_wp2_with fail
    refine (HFIT.out _).mono ?_
    rintro e v2 ⟨rfl, hb2⟩
    have hB3 := hB2.trans (hb2.mono (Nat.le_trans HSZ.out hHeld.size))
    have hS3 := Nat.le_trans (Nat.le_trans HSZ.out hHeld.size) hb2.size
    have hSl := HSL.out.below (hHeld.trans (hb2.mono hHeld.size))
    go_wp2_with fail
    refine (HOP.out _ hSl).mono ?_
    rintro e v3 ⟨A3, c3, rfl, own3, hb3⟩
    have hB4 := hB3.trans (hb3.mono hS3)
    clear hb3
    obtain ⟨y0, y1, y2, y3, y4, y5⟩ := HBX.out _ hB4
    obtain ⟨hfz, hglt⟩ := HFZ.out _ hB4
    have hBw2 : Below w.heap.size w v3 := ((Below.refl _ w).alloc (Nat.le_refl _) _).trans (hB4.mono (Nat.le_succ _))
    go_wp2_with fail
    refine bodyPost_ret (v := .tuple #[.agg #[.int .i64 0, .int .i64 0, .int .i64 0, .int .i64 0, .int .i64 0, .slice none 0 0], .int .i64 3]) ?_ rfl ⟨DRes.no _ _, ?_⟩
    · simp [results, Try.results92, go_sem, cell_set, y0, y1, y2, y3, y4, y5]
    · exact Below.setCell (Below.setCell (Below.setCell (Below.setCell (Below.setCell (Below.setCell hBw2 (Nat.le_refl _) _) (Nat.le_refl _) _) (Nat.le_refl _) _) (Nat.le_refl _) _) (Nat.le_refl _) _) (Nat.le_refl _) _
theorem fdec7_ok (b o c : Nat) (l : List Nat) (w : World) (h96 : l.length = 96) (hc : 96 ≤ c) (hcm : c ≤ maxLen) (hs : Sl w (some ⟨b, o, none⟩) (by8 l)) (ho : Oct l) (hd : l.getD 12 0 ≤ 80) (hz : blankF (seg l (13 + l.getD 12 0) (80 - l.getD 12 0)) = true) (hok : (cand l).ok = true) (hyes : sealed (cand l).body = l) :
    Calls Try.prog 92 #[.slice (some ⟨b, o, none⟩) 96 c] w fun e w' => DRes w.heap.size w' e (cand l, 0) ∧ Below w.heap.size w w' := by
  obtain ⟨n0, hn0⟩ : ∃ n : Int, ((bnum (seg l 0 3) : Nat) : Int) = n := ⟨_, rfl⟩
  obtain ⟨n1, hn1⟩ : ∃ n : Int, ((bnum (seg l 3 3) : Nat) : Int) = n := ⟨_, rfl⟩
  obtain ⟨n2, hn2⟩ : ∃ n : Int, ((bnum (seg l 6 4) : Nat) : Int) = n := ⟨_, rfl⟩
  obtain ⟨n3, hn3⟩ : ∃ n : Int, ((bnum (seg l 10 1) : Nat) : Int) = n := ⟨_, rfl⟩
  obtain ⟨n4, hn4⟩ : ∃ n : Int, ((bnum (seg l 11 1) : Nat) : Int) = n := ⟨_, rfl⟩
  have hok0 := cand_ok0 h96 hd
  rw [hok, hn0, hn1, hn2, hn3, hn4] at hok0
  have HFIT := Lib.hid (fun V => fit7_any ⟨n0, n1, n2, n3, n4, []⟩ none 0 V)
  simp only [Fr.val, List.length_nil] at HFIT
  rw [hok0] at HFIT
  clear hok0
  obtain ⟨p, q, r, hpq⟩ := cell_split h96
  have hopn : ∀ V, Sl V (some ⟨b, o, none⟩) (by8 l) → Calls Try.prog 101 #[.slice (some ⟨b, o, none⟩) 96 c] V fun e w' => ∃ A' c', e = .returned (.tuple #[.slice A' 93 c', .bool true]) ∧ w'.ownsRow V.heap.size 5 1 (.slice A' 93 c') 93 (by8 (l.take 93)) ∧ Below V.heap.size V w' := fun V hV => by
    have h93 : (l.take 93).length = 93 := by rw [List.length_take]; omega
    have h := open_any (some ⟨b, o, none⟩) c (l.take 93) p q r V (by omega) (by rw [← hpq]; exact hV) (by rw [← hpq]; exact ho)
    rw [h93] at h
    have hdec : decide (p * 65536 + q * 256 + r = CrcM.more 11994318 (l.take 93)) = true := by
      have hcb := cand_body_blank h96 ho hd hz
      refine decide_eq_true ?_
      refine three_ne ?_
      rw [hcb] at hyes
      unfold sealed at hyes
      have h2 := hyes.trans hpq
      exact (List.append_cancel_left h2).symm
    rw [hdec] at h
    exact h
  have HOP := Lib.hid hopn
  clear hopn
  have HSG : Hid (seg (l.take 93) 13 (l.getD 12 0) = seg l 13 (l.getD 12 0)) := Lib.hid (seg_take (by omega) (by omega))
  have HVAL : Hid (∀ A c, (cand l).val A c = .agg #[.int .i64 n0, .int .i64 n1, .int .i64 n2, .int .i64 n3, .int .i64 n4, .slice A (l.getD 12 0) c]) := Lib.hid fun A c => by
    have e1 : bnum (seg l 10 1) = l.getD 10 0 := by rw [seg_one (by omega)]; simp [bnum]
    have e2 : bnum (seg l 11 1) = l.getD 11 0 := by rw [seg_one (by omega)]; simp [bnum]
    unfold Fr.val cand
    simp only
    rw [seg_len (by omega), ← e1, ← e2, hn0, hn1, hn2, hn3, hn4]
  have HLN : Hid ((cand l).data = seg l 13 (l.getD 12 0) ∧ (cand l).data.length = l.getD 12 0) := Lib.hid ⟨rfl, by unfold cand; simp only; rw [seg_len (by omega)]⟩
  have HCL : Hid (∀ (A : Option Addr) (cp : Nat) (V : World), Sl V A (by8 (seg l 13 (l.getD 12 0))) → Calls Try.prog 58 #[.slice A (l.getD 12 0) cp] V fun e w' => (∃ A' c', e = .returned (.slice A' (l.getD 12 0) c') ∧ w'.ownsRow V.heap.size 5 1 (.slice A' (l.getD 12 0) c') (l.getD 12 0) (by8 (seg l 13 (l.getD 12 0)))) ∧ Below V.heap.size V w') := Lib.hid fun A cp V hV => by
    have h := clone8_any A cp (seg l 13 (l.getD 12 0)) V (by rw [seg_len (by omega)]; omega) hV
    rw [seg_len (by omega)] at h
    exact h
  obtain ⟨d, hd0⟩ : ∃ d, l.getD 12 0 = d := ⟨_, rfl⟩
  have hcd : w.cell? ⟨b, o + 12, none⟩ = some (.int .u8 (d : Int)) := by
    obtain ⟨_, _, e, h⟩ := hs.byte (j := 12) (by omega)
    injection e with e; injection e with e1 e2; subst e1; subst e2
    rw [h, ← hd0, List.getD_eq_getElem?_getD, List.getElem?_eq_getElem (by omega)]
    rfl
  rw [hd0] at hd hz HSG HCL HVAL HLN
  have hd2 : ¬ (d : Int) > 80 := by omega
  have hblt : b < w.heap.size := World.block_lt_of_cell? _ _ hcd
  have hq1 : (13 : Int) + (d : Int) ≤ 93 := by omega
  have hq2 : (0 : Int) ≤ 13 + (d : Int) := by omega
  have hq3 : (93 : Int) ≤ (c : Int) := by omega
  have hsl := (hs.alloc (.cells #[.int .i64 0, .int .i64 0, .int .i64 0, .int .i64 0, .int .i64 0, .slice none 0 0] 130))
  have hbl := blank7_any (some ⟨b, o + (13 + d), none⟩) (c - (13 + d)) (seg l (13 + d) (80 - d)) (w.alloc (.cells #[.int .i64 0, .int .i64 0, .int .i64 0, .int .i64 0, .int .i64 0, .slice none 0 0] 130)) (by rw [seg_len (by omega)]; omega) (hsl.seg _ _)
  rw [seg_len (by omega), hz, show 80 - d = 93 - (13 + d) by omega] at hbl
  have HBL := Lib.hid hbl
  have HBX := Lib.hid (fun V (hV : Below (w.heap.size + 1) (w.alloc (.cells #[.int .i64 0, .int .i64 0, .int .i64 0, .int .i64 0, .int .i64 0, .slice none 0 0] 130)) V) => box6 (V := V) (by rw [World.size_alloc]; exact hV))
  have HFZ : Hid (∀ V, Below (w.heap.size + 1) (w.alloc (.cells #[.int .i64 0, .int .i64 0, .int .i64 0, .int .i64 0, .int .i64 0, .slice none 0 0] 130)) V → (∀ i, V.frozen? ⟨w.heap.size, i, none⟩ = false) ∧ w.heap.size < V.heap.size) := Lib.hid fun V hV => ⟨fun i => by rw [hV.frozen (p := ⟨w.heap.size, i, none⟩) (Nat.lt_succ_self w.heap.size)]; exact frozen_new w _ _ i, by have := hV.size; rw [World.size_alloc] at this; omega⟩
  have HSW := Lib.hid hs
  have H96 := Lib.hid h96
  have HD0 := Lib.hid hd0
  clear hbl hz hd0 hs hsl h96
  go_enter Try.func92, Try.ntmps92
  go_wp2_with fail
  refine HBL.out.mono ?_
  rintro e v1 ⟨rfl, hB⟩
  rw [World.size_alloc] at hB
  have HB0 := Lib.hid hB
  have HSZ : Hid (w.heap.size + 1 ≤ v1.heap.size) := Lib.hid (by have := hB.size; rw [World.size_alloc] at this; exact this)
  have HNE : Hid (¬ v1.heap.size = w.heap.size ∧ ¬ w.heap.size = v1.heap.size) := Lib.hid (by have := HSZ.out; omega)
  have hBw : Below w.heap.size w v1 := ((Below.refl _ w).alloc (Nat.le_refl _) _).trans (hB.mono (Nat.le_succ _))
  have HSL := Lib.hid (HSW.out.below hBw)
  have h96 := H96.out
  have HG2 : Hid (∀ V, Below v1.heap.size v1 V → Calls Try.prog 100 #[.slice (some ⟨b, o, none⟩) 3 (c)] V fun e w' => e = .returned (.int .i64 n0) ∧ V = w') := Lib.hid fun V hV => by
    have h := get7_any (some ⟨b, o + 0, none⟩) (c) (seg l 0 3) V (by rw [seg_len (by omega)]; omega) (seg_oct ho _ _) ((HSL.out.below hV).seg _ _)
    rw [seg_len (by omega), hn0] at h
    exact h
  have HG5 : Hid (∀ V, Below v1.heap.size v1 V → Calls Try.prog 100 #[.slice (some ⟨b, o + 3, none⟩) 3 (c - 3)] V fun e w' => e = .returned (.int .i64 n1) ∧ V = w') := Lib.hid fun V hV => by
    have h := get7_any (some ⟨b, o + 3, none⟩) (c - 3) (seg l 3 3) V (by rw [seg_len (by omega)]; omega) (seg_oct ho _ _) ((HSL.out.below hV).seg _ _)
    rw [seg_len (by omega), hn1] at h
    exact h
  have HG8 : Hid (∀ V, Below v1.heap.size v1 V → Calls Try.prog 100 #[.slice (some ⟨b, o + 6, none⟩) 4 (c - 6)] V fun e w' => e = .returned (.int .i64 n2) ∧ V = w') := Lib.hid fun V hV => by
    have h := get7_any (some ⟨b, o + 6, none⟩) (c - 6) (seg l 6 4) V (by rw [seg_len (by omega)]; omega) (seg_oct ho _ _) ((HSL.out.below hV).seg _ _)
    rw [seg_len (by omega), hn2] at h
    exact h
  have HG11 : Hid (∀ V, Below v1.heap.size v1 V → Calls Try.prog 100 #[.slice (some ⟨b, o + 10, none⟩) 1 (c - 10)] V fun e w' => e = .returned (.int .i64 n3) ∧ V = w') := Lib.hid fun V hV => by
    have h := get7_any (some ⟨b, o + 10, none⟩) (c - 10) (seg l 10 1) V (by rw [seg_len (by omega)]; omega) (seg_oct ho _ _) ((HSL.out.below hV).seg _ _)
    rw [seg_len (by omega), hn3] at h
    exact h
  have HG14 : Hid (∀ V, Below v1.heap.size v1 V → Calls Try.prog 100 #[.slice (some ⟨b, o + 11, none⟩) 1 (c - 11)] V fun e w' => e = .returned (.int .i64 n4) ∧ V = w') := Lib.hid fun V hV => by
    have h := get7_any (some ⟨b, o + 11, none⟩) (c - 11) (seg l 11 1) V (by rw [seg_len (by omega)]; omega) (seg_oct ho _ _) ((HSL.out.below hV).seg _ _)
    rw [seg_len (by omega), hn4] at h
    exact h
  clear h96 hB hBw
  have hc3 : (3 : Int) ≤ (c : Int) ∧ (6 : Int) ≤ (c : Int) ∧ (10 : Int) ≤ (c : Int) ∧ (11 : Int) ≤ (c : Int) ∧ (12 : Int) ≤ (c : Int) := by omega
  have hc4 : ¬ c = 3 ∧ ¬ c = 6 ∧ ¬ c = 10 ∧ ¬ c = 11 := by omega
  obtain ⟨hc30, hc31, hc32, hc33, hc34⟩ := hc3
  obtain ⟨hc40, hc41, hc42, hc43⟩ := hc4
  go_wp2_with fail
  refine wp_region_held_drew (S := (fun V' => Below v1.heap.size v1 V')) (by kernel_rfl) (by exact (Below.refl _ _).drew) (fun hHeld => ?_)
  refine tkI 0 27 rfl (by intro w hSw; skip; go_simp <;> with_reducible rfl) hHeld ?_; simp only [pqZ]
  refine tkI 1 28 rfl (by intro w hSw; skip; go_simp <;> with_reducible rfl) hHeld ?_; simp only [pqZ]
  refine tkI 3 30 rfl (by intro w hSw; skip; go_simp <;> with_reducible rfl) hHeld ?_; simp only [pqZ]
  refine tkI 4 31 rfl (by intro w hSw; skip; go_simp <;> with_reducible rfl) hHeld ?_; simp only [pqZ]
  refine tkI 6 33 rfl (by intro w hSw; skip; go_simp <;> with_reducible rfl) hHeld ?_; simp only [pqZ]
  refine tkI 7 34 rfl (by intro w hSw; skip; go_simp <;> with_reducible rfl) hHeld ?_; simp only [pqZ]
  refine tkI 9 36 rfl (by intro w hSw; skip; go_simp <;> with_reducible rfl) hHeld ?_; simp only [pqZ]
  refine tkI 10 37 rfl (by intro w hSw; skip; go_simp <;> with_reducible rfl) hHeld ?_; simp only [pqZ]
  refine tkI 12 39 rfl (by intro w hSw; skip; go_simp <;> with_reducible rfl) hHeld ?_; simp only [pqZ]
  refine tkI 13 40 rfl (by intro w hSw; skip; go_simp <;> with_reducible rfl) hHeld ?_; simp only [pqZ]
  refine wpAnyH_ready (rs := [2, 16]) (by kernel_rfl) (by simp) ?_
  refine AllReadyH.cons (o := ⟨some 29, _, _, _, _, _⟩) rfl (fun K hK => ?_) (AllReadyH.cons (o := ⟨some 5, _, _, _, _, _⟩) rfl (fun K hK => ?_) AllReadyH.nil)
  · go_simp
    refine (HG2.out _ hHeld).mono ?_
    rintro e x2 ⟨rfl, rfl⟩
    have hKeep := hHeld
    go_wp2_with fail
    refine hK.out _ _ (by (try dsimp only); exact hKeep) (fun hHeld => ?_); clear hK K hKeep; try simp only [pqZ]
    refine wpAnyH_ready (rs := [5, 16]) (by kernel_rfl) (by simp) ?_
    refine AllReadyH.cons (o := ⟨some 32, _, _, _, _, _⟩) rfl (fun K hK => ?_) (AllReadyH.cons (o := ⟨some 5, _, _, _, _, _⟩) rfl (fun K hK => ?_) AllReadyH.nil)
    · go_simp
      refine (HG5.out _ hHeld).mono ?_
      rintro e x5 ⟨rfl, rfl⟩
      have hKeep := hHeld
      go_wp2_with fail
      refine hK.out _ _ (by (try dsimp only); exact hKeep) (fun hHeld => ?_); clear hK K hKeep; try simp only [pqZ]
      refine wpAnyH_ready (rs := [8, 16]) (by kernel_rfl) (by simp) ?_
      refine AllReadyH.cons (o := ⟨some 35, _, _, _, _, _⟩) rfl (fun K hK => ?_) (AllReadyH.cons (o := ⟨some 5, _, _, _, _, _⟩) rfl (fun K hK => ?_) AllReadyH.nil)
      · go_simp
        refine (HG8.out _ hHeld).mono ?_
        rintro e x8 ⟨rfl, rfl⟩
        have hKeep := hHeld
        go_wp2_with fail
        refine hK.out _ _ (by (try dsimp only); exact hKeep) (fun hHeld => ?_); clear hK K hKeep; try simp only [pqZ]
        refine wpAnyH_ready (rs := [11, 16]) (by kernel_rfl) (by simp) ?_
        refine AllReadyH.cons (o := ⟨some 38, _, _, _, _, _⟩) rfl (fun K hK => ?_) (AllReadyH.cons (o := ⟨some 5, _, _, _, _, _⟩) rfl (fun K hK => ?_) AllReadyH.nil)
        · go_simp
          refine (HG11.out _ hHeld).mono ?_
          rintro e x11 ⟨rfl, rfl⟩
          have hKeep := hHeld
          go_wp2_with fail
          refine hK.out _ _ (by (try dsimp only); exact hKeep) (fun hHeld => ?_); clear hK K hKeep; try simp only [pqZ]
          refine wpAnyH_ready (rs := [14, 16]) (by kernel_rfl) (by simp) ?_
          refine AllReadyH.cons (o := ⟨some 41, _, _, _, _, _⟩) rfl (fun K hK => ?_) (AllReadyH.cons (o := ⟨some 5, _, _, _, _, _⟩) rfl (fun K hK => ?_) AllReadyH.nil)
          · go_simp
            refine (HG14.out _ hHeld).mono ?_
            rintro e x14 ⟨rfl, rfl⟩
            have hKeep := hHeld
            go_wp2_with fail
            refine hK.out _ _ (by (try dsimp only); exact hKeep) (fun hHeld => ?_); clear hK K hKeep; try simp only [pqZ]
            refine tkI 15 42 rfl (by intro w hSw; skip; go_simp <;> with_reducible rfl) hHeld ?_; simp only [pqZ]
            refine rdZ 16 5 rfl (by kernel_rfl) (fun K hK => ?_)
            have hHd := hHeld
            skip
            have hHp := hHeld
            have hKeep := since_alloc hHeld (.cells #[.int .i64 0, .int .i64 0, .int .i64 0, .int .i64 0, .int .i64 0, .slice none 0 0] 130)
            go_simp
            refine hK.out _ _ (by (try dsimp only); exact hKeep) (fun hHeld => ?_); clear hK K hKeep; try simp only [pqZ]
            refine wpAnyH_ready (rs := [17]) (by kernel_rfl) (by simp) ?_
            refine AllReadyH.cons (o := ⟨none, _, _, _, _, _⟩) rfl (fun K hK => ?_) AllReadyH.nil
            have hHd := hHeld
            skip
            have hKeep := since_alloc hHp (.cells #[.int .i64 n0, .int .i64 n1, .int .i64 n2, .int .i64 n3, .int .i64 n4, .slice none 0 0] 130)
            skip
            go_simp
            refine hK.out _ _ (by (try dsimp only); exact hKeep) (fun hHeld => ?_); clear hK K hKeep; try simp only [pqZ]
            refine wpAnyH_done (by kernel_rfl) ?_ _
            clear hHp
            have hB2 := HB0.out.trans (hHeld.mono HSZ.out)
            have hHd : Below v1.heap.size v1 (v1.alloc (.cells #[.int .i64 n0, .int .i64 n1, .int .i64 n2, .int .i64 n3, .int .i64 n4, .slice none 0 0] 130)) := ⟨hHeld.os, hHeld.tape, hHeld.output, hHeld.size, hHeld.block⟩
            have hbF := fun V (hV : Below (v1.heap.size + 1) (v1.alloc (.cells #[.int .i64 n0, .int .i64 n1, .int .i64 n2, .int .i64 n3, .int .i64 n4, .slice none 0 0] 130)) V) => box6 (w := v1) (V := V) (by rw [World.size_alloc]; exact hV)
            have hbZ := fun V (hV : Below (v1.heap.size + 1) (v1.alloc (.cells #[.int .i64 n0, .int .i64 n1, .int .i64 n2, .int .i64 n3, .int .i64 n4, .slice none 0 0] 130)) V) => (show (∀ i, V.frozen? ⟨v1.heap.size, i, none⟩ = false) ∧ v1.heap.size < V.heap.size from ⟨fun i => by rw [hV.frozen (p := ⟨v1.heap.size, i, none⟩) (Nat.lt_succ_self v1.heap.size)]; exact frozen_new v1 _ _ i, by have := hV.size; rw [World.size_alloc] at this; omega⟩)
            have HBF := Lib.hid hbF
            have HBZ := Lib.hid hbZ
            clear hbF hbZ
            go_wp2_with fail
            refine (HFIT.out _).mono ?_
            rintro e v2 ⟨rfl, hb2⟩
            have hb2 : Below (v1.alloc (.cells #[.int .i64 n0, .int .i64 n1, .int .i64 n2, .int .i64 n3, .int .i64 n4, .slice none 0 0] 130)).heap.size (v1.alloc (.cells #[.int .i64 n0, .int .i64 n1, .int .i64 n2, .int .i64 n3, .int .i64 n4, .slice none 0 0] 130)) v2 := ⟨hb2.os, hb2.tape, hb2.output, hb2.size, hb2.block⟩
            rw [World.size_alloc] at hb2
            have hB2 : Below (w.heap.size + 1) (w.alloc (.cells #[.int .i64 0, .int .i64 0, .int .i64 0, .int .i64 0, .int .i64 0, .slice none 0 0] 130)) (v1.alloc (.cells #[.int .i64 n0, .int .i64 n1, .int .i64 n2, .int .i64 n3, .int .i64 n4, .slice none 0 0] 130)) := ⟨hB2.os, hB2.tape, hB2.output, hB2.size, hB2.block⟩
            have hB3 := hB2.trans (hb2.mono (by have := HSZ.out; omega))
            have hS3 : v1.heap.size + 1 ≤ v2.heap.size := by have := hb2.size; rw [World.size_alloc] at this; exact this
            have hSl := HSL.out.below (hHd.trans (hb2.mono (Nat.le_succ _)))
            go_wp2_with fail
            refine (HOP.out _ hSl).mono ?_
            rintro e v3 ⟨A3, c3, rfl, own3, hb3⟩
            have hB4 := hB3.trans (hb3.mono (Nat.le_trans HSZ.out (by omega)))
            have hF3 := hb2.trans (hb3.mono hS3)
            have hS4 : v1.heap.size + 1 ≤ v3.heap.size := Nat.le_trans hS3 hb3.size
            clear hb3 hb2 hB2 hB3
            have hc93 := own_le own3
            obtain ⟨g, rfl, hg1, hg2, hg3⟩ := own_at own3 (by decide)
            have hsd := (Sl.of_own own3).seg 13 d
            rw [HSG.out, Nat.zero_add] at hsd
            have hp1 : (13 : Int) + (d : Int) ≤ (c3 : Int) := by omega
            have hp2 : (13 : Int) ≤ 13 + (d : Int) := by omega
            have hp3 : ¬ c3 = 13 := by omega
            clear hc93 own3
            go_wp2_with fail
            have hcl := HCL.out (some ⟨g, 13, none⟩) (c3 - 13) v3 hsd
            refine hcl.mono ?_
            rintro e v4 ⟨⟨A4, c4, rfl, own4⟩, hb4⟩
            have hB5 := hB4.trans (hb4.mono (Nat.le_trans HSZ.out (by omega)))
            have hF4 := hF3.trans (hb4.mono hS4)
            have hS5 : v1.heap.size + 1 ≤ v4.heap.size := Nat.le_trans hS4 hb4.size
            clear hb4 hcl hB4 hF3
            obtain ⟨z0, z1, z2, z3, z4, z5⟩ := HBF.out _ hF4
            obtain ⟨hzz, hzl⟩ := HBZ.out _ hF4
            obtain ⟨y0, y1, y2, y3, y4, y5⟩ := HBX.out _ hB5
            obtain ⟨hfz, hglt⟩ := HFZ.out _ hB5
            have hne := HNE.out
            have hBw2 : Below w.heap.size w v4 := ((Below.refl _ w).alloc (Nat.le_refl _) _).trans (hB5.mono (Nat.le_succ _))
            go_wp2_with fail
            have hge := own_ge own4
            have hw7 : ∀ k, (Value.slice A4 d c4).ownBlock = some k → w.heap.size < k ∧ v1.heap.size < k := fun k hk => by have := hge k hk; have := HSZ.out; omega
            have own5 := own_far1 own4 (p := ⟨v1.heap.size, 5, none⟩) (fun e => by have := (hw7 _ e).2; simp at this) (.slice A4 d c4)
            have own5 := own_far1 (own_far1 (own_far1 (own_far1 (own_far1 (own_far1 own5 (p := ⟨w.heap.size, 0, none⟩) (fun e => by have := (hw7 _ e).1; simp at this) (.int .i64 n0)) (p := ⟨w.heap.size, 1, none⟩) (fun e => by have := (hw7 _ e).1; simp at this) (.int .i64 n1)) (p := ⟨w.heap.size, 2, none⟩) (fun e => by have := (hw7 _ e).1; simp at this) (.int .i64 n2)) (p := ⟨w.heap.size, 3, none⟩) (fun e => by have := (hw7 _ e).1; simp at this) (.int .i64 n3)) (p := ⟨w.heap.size, 4, none⟩) (fun e => by have := (hw7 _ e).1; simp at this) (.int .i64 n4)) (p := ⟨w.heap.size, 5, none⟩) (fun e => by have := (hw7 _ e).1; simp at this) (.slice A4 d c4)
            have own6 := own_base own5 (show w.heap.size ≤ v3.heap.size by have := HSZ.out; omega)
            have hval := HVAL.out A4 c4
            refine bodyPost_ret (v := .tuple #[.agg #[.int .i64 n0, .int .i64 n1, .int .i64 n2, .int .i64 n3, .int .i64 n4, .slice A4 d c4], .int .i64 0]) ?_ rfl ⟨⟨A4, c4, by rw [hval], by rw [HLN.out.2, HLN.out.1]; exact own6⟩, ?_⟩
            · simp [results, Try.results92, go_sem, cell_set, y0, y1, y2, y3, y4, y5]
            · exact Below.setCell (Below.setCell (Below.setCell (Below.setCell (Below.setCell (Below.setCell (Below.setCell hBw2 (p := ⟨v1.heap.size, 5, none⟩) (show w.heap.size ≤ v1.heap.size by have := HSZ.out; omega) _) (Nat.le_refl _) _) (Nat.le_refl _) _) (Nat.le_refl _) _) (Nat.le_refl _) _) (Nat.le_refl _) _) (Nat.le_refl _) _
          · have hHd := hHeld
            skip
            have hHp := hHeld
            have hKeep := since_alloc hHeld (.cells #[.int .i64 0, .int .i64 0, .int .i64 0, .int .i64 0, .int .i64 0, .slice none 0 0] 130)
            go_simp
            refine hK.out _ _ (by (try dsimp only); exact hKeep) (fun hHeld => ?_); clear hK K hKeep; try simp only [pqZ]
            refine rdZ 14 41 rfl (by kernel_rfl) (fun K hK => ?_)
            go_simp
            refine (HG14.out _ hHeld).mono ?_
            rintro e x14 ⟨rfl, rfl⟩
            have hKeep := hHeld
            go_wp2_with fail
            refine hK.out _ _ (by (try dsimp only); exact hKeep) (fun hHeld => ?_); clear hK K hKeep; try simp only [pqZ]
            refine tkI 15 42 rfl (by intro w hSw; skip; go_simp <;> with_reducible rfl) hHeld ?_; simp only [pqZ]
            refine wpAnyH_ready (rs := [17]) (by kernel_rfl) (by simp) ?_
            refine AllReadyH.cons (o := ⟨none, _, _, _, _, _⟩) rfl (fun K hK => ?_) AllReadyH.nil
            have hHd := hHeld
            skip
            have hKeep := since_alloc hHp (.cells #[.int .i64 n0, .int .i64 n1, .int .i64 n2, .int .i64 n3, .int .i64 n4, .slice none 0 0] 130)
            skip
            go_simp
            refine hK.out _ _ (by (try dsimp only); exact hKeep) (fun hHeld => ?_); clear hK K hKeep; try simp only [pqZ]
            refine wpAnyH_done (by kernel_rfl) ?_ _
            clear hHp
            have hB2 := HB0.out.trans (hHeld.mono HSZ.out)
            have hHd : Below v1.heap.size v1 (v1.alloc (.cells #[.int .i64 n0, .int .i64 n1, .int .i64 n2, .int .i64 n3, .int .i64 n4, .slice none 0 0] 130)) := ⟨hHeld.os, hHeld.tape, hHeld.output, hHeld.size, hHeld.block⟩
            have hbF := fun V (hV : Below (v1.heap.size + 1) (v1.alloc (.cells #[.int .i64 n0, .int .i64 n1, .int .i64 n2, .int .i64 n3, .int .i64 n4, .slice none 0 0] 130)) V) => box6 (w := v1) (V := V) (by rw [World.size_alloc]; exact hV)
            have hbZ := fun V (hV : Below (v1.heap.size + 1) (v1.alloc (.cells #[.int .i64 n0, .int .i64 n1, .int .i64 n2, .int .i64 n3, .int .i64 n4, .slice none 0 0] 130)) V) => (show (∀ i, V.frozen? ⟨v1.heap.size, i, none⟩ = false) ∧ v1.heap.size < V.heap.size from ⟨fun i => by rw [hV.frozen (p := ⟨v1.heap.size, i, none⟩) (Nat.lt_succ_self v1.heap.size)]; exact frozen_new v1 _ _ i, by have := hV.size; rw [World.size_alloc] at this; omega⟩)
            have HBF := Lib.hid hbF
            have HBZ := Lib.hid hbZ
            clear hbF hbZ
            go_wp2_with fail
            refine (HFIT.out _).mono ?_
            rintro e v2 ⟨rfl, hb2⟩
            have hb2 : Below (v1.alloc (.cells #[.int .i64 n0, .int .i64 n1, .int .i64 n2, .int .i64 n3, .int .i64 n4, .slice none 0 0] 130)).heap.size (v1.alloc (.cells #[.int .i64 n0, .int .i64 n1, .int .i64 n2, .int .i64 n3, .int .i64 n4, .slice none 0 0] 130)) v2 := ⟨hb2.os, hb2.tape, hb2.output, hb2.size, hb2.block⟩
            rw [World.size_alloc] at hb2
            have hB2 : Below (w.heap.size + 1) (w.alloc (.cells #[.int .i64 0, .int .i64 0, .int .i64 0, .int .i64 0, .int .i64 0, .slice none 0 0] 130)) (v1.alloc (.cells #[.int .i64 n0, .int .i64 n1, .int .i64 n2, .int .i64 n3, .int .i64 n4, .slice none 0 0] 130)) := ⟨hB2.os, hB2.tape, hB2.output, hB2.size, hB2.block⟩
            have hB3 := hB2.trans (hb2.mono (by have := HSZ.out; omega))
            have hS3 : v1.heap.size + 1 ≤ v2.heap.size := by have := hb2.size; rw [World.size_alloc] at this; exact this
            have hSl := HSL.out.below (hHd.trans (hb2.mono (Nat.le_succ _)))
            go_wp2_with fail
            refine (HOP.out _ hSl).mono ?_
            rintro e v3 ⟨A3, c3, rfl, own3, hb3⟩
            have hB4 := hB3.trans (hb3.mono (Nat.le_trans HSZ.out (by omega)))
            have hF3 := hb2.trans (hb3.mono hS3)
            have hS4 : v1.heap.size + 1 ≤ v3.heap.size := Nat.le_trans hS3 hb3.size
            clear hb3 hb2 hB2 hB3
            have hc93 := own_le own3
            obtain ⟨g, rfl, hg1, hg2, hg3⟩ := own_at own3 (by decide)
            have hsd := (Sl.of_own own3).seg 13 d
            rw [HSG.out, Nat.zero_add] at hsd
            have hp1 : (13 : Int) + (d : Int) ≤ (c3 : Int) := by omega
            have hp2 : (13 : Int) ≤ 13 + (d : Int) := by omega
            have hp3 : ¬ c3 = 13 := by omega
            clear hc93 own3
            go_wp2_with fail
            have hcl := HCL.out (some ⟨g, 13, none⟩) (c3 - 13) v3 hsd
            refine hcl.mono ?_
            rintro e v4 ⟨⟨A4, c4, rfl, own4⟩, hb4⟩
            have hB5 := hB4.trans (hb4.mono (Nat.le_trans HSZ.out (by omega)))
            have hF4 := hF3.trans (hb4.mono hS4)
            have hS5 : v1.heap.size + 1 ≤ v4.heap.size := Nat.le_trans hS4 hb4.size
            clear hb4 hcl hB4 hF3
            obtain ⟨z0, z1, z2, z3, z4, z5⟩ := HBF.out _ hF4
            obtain ⟨hzz, hzl⟩ := HBZ.out _ hF4
            obtain ⟨y0, y1, y2, y3, y4, y5⟩ := HBX.out _ hB5
            obtain ⟨hfz, hglt⟩ := HFZ.out _ hB5
            have hne := HNE.out
            have hBw2 : Below w.heap.size w v4 := ((Below.refl _ w).alloc (Nat.le_refl _) _).trans (hB5.mono (Nat.le_succ _))
            go_wp2_with fail
            have hge := own_ge own4
            have hw7 : ∀ k, (Value.slice A4 d c4).ownBlock = some k → w.heap.size < k ∧ v1.heap.size < k := fun k hk => by have := hge k hk; have := HSZ.out; omega
            have own5 := own_far1 own4 (p := ⟨v1.heap.size, 5, none⟩) (fun e => by have := (hw7 _ e).2; simp at this) (.slice A4 d c4)
            have own5 := own_far1 (own_far1 (own_far1 (own_far1 (own_far1 (own_far1 own5 (p := ⟨w.heap.size, 0, none⟩) (fun e => by have := (hw7 _ e).1; simp at this) (.int .i64 n0)) (p := ⟨w.heap.size, 1, none⟩) (fun e => by have := (hw7 _ e).1; simp at this) (.int .i64 n1)) (p := ⟨w.heap.size, 2, none⟩) (fun e => by have := (hw7 _ e).1; simp at this) (.int .i64 n2)) (p := ⟨w.heap.size, 3, none⟩) (fun e => by have := (hw7 _ e).1; simp at this) (.int .i64 n3)) (p := ⟨w.heap.size, 4, none⟩) (fun e => by have := (hw7 _ e).1; simp at this) (.int .i64 n4)) (p := ⟨w.heap.size, 5, none⟩) (fun e => by have := (hw7 _ e).1; simp at this) (.slice A4 d c4)
            have own6 := own_base own5 (show w.heap.size ≤ v3.heap.size by have := HSZ.out; omega)
            have hval := HVAL.out A4 c4
            refine bodyPost_ret (v := .tuple #[.agg #[.int .i64 n0, .int .i64 n1, .int .i64 n2, .int .i64 n3, .int .i64 n4, .slice A4 d c4], .int .i64 0]) ?_ rfl ⟨⟨A4, c4, by rw [hval], by rw [HLN.out.2, HLN.out.1]; exact own6⟩, ?_⟩
            · simp [results, Try.results92, go_sem, cell_set, y0, y1, y2, y3, y4, y5]
            · exact Below.setCell (Below.setCell (Below.setCell (Below.setCell (Below.setCell (Below.setCell (Below.setCell hBw2 (p := ⟨v1.heap.size, 5, none⟩) (show w.heap.size ≤ v1.heap.size by have := HSZ.out; omega) _) (Nat.le_refl _) _) (Nat.le_refl _) _) (Nat.le_refl _) _) (Nat.le_refl _) _) (Nat.le_refl _) _) (Nat.le_refl _) _
        · have hHd := hHeld
          skip
          have hHp := hHeld
          have hKeep := since_alloc hHeld (.cells #[.int .i64 0, .int .i64 0, .int .i64 0, .int .i64 0, .int .i64 0, .slice none 0 0] 130)
          go_simp
          refine hK.out _ _ (by (try dsimp only); exact hKeep) (fun hHeld => ?_); clear hK K hKeep; try simp only [pqZ]
          refine rdZ 11 38 rfl (by kernel_rfl) (fun K hK => ?_)
          go_simp
          refine (HG11.out _ hHeld).mono ?_
          rintro e x11 ⟨rfl, rfl⟩
          have hKeep := hHeld
          go_wp2_with fail
          refine hK.out _ _ (by (try dsimp only); exact hKeep) (fun hHeld => ?_); clear hK K hKeep; try simp only [pqZ]
          refine rdZ 14 41 rfl (by kernel_rfl) (fun K hK => ?_)
          go_simp
          refine (HG14.out _ hHeld).mono ?_
          rintro e x14 ⟨rfl, rfl⟩
          have hKeep := hHeld
          go_wp2_with fail
          refine hK.out _ _ (by (try dsimp only); exact hKeep) (fun hHeld => ?_); clear hK K hKeep; try simp only [pqZ]
          refine tkI 15 42 rfl (by intro w hSw; skip; go_simp <;> with_reducible rfl) hHeld ?_; simp only [pqZ]
          refine wpAnyH_ready (rs := [17]) (by kernel_rfl) (by simp) ?_
          refine AllReadyH.cons (o := ⟨none, _, _, _, _, _⟩) rfl (fun K hK => ?_) AllReadyH.nil
          have hHd := hHeld
          skip
          have hKeep := since_alloc hHp (.cells #[.int .i64 n0, .int .i64 n1, .int .i64 n2, .int .i64 n3, .int .i64 n4, .slice none 0 0] 130)
          skip
          go_simp
          refine hK.out _ _ (by (try dsimp only); exact hKeep) (fun hHeld => ?_); clear hK K hKeep; try simp only [pqZ]
          refine wpAnyH_done (by kernel_rfl) ?_ _
          clear hHp
          have hB2 := HB0.out.trans (hHeld.mono HSZ.out)
          have hHd : Below v1.heap.size v1 (v1.alloc (.cells #[.int .i64 n0, .int .i64 n1, .int .i64 n2, .int .i64 n3, .int .i64 n4, .slice none 0 0] 130)) := ⟨hHeld.os, hHeld.tape, hHeld.output, hHeld.size, hHeld.block⟩
          have hbF := fun V (hV : Below (v1.heap.size + 1) (v1.alloc (.cells #[.int .i64 n0, .int .i64 n1, .int .i64 n2, .int .i64 n3, .int .i64 n4, .slice none 0 0] 130)) V) => box6 (w := v1) (V := V) (by rw [World.size_alloc]; exact hV)
          have hbZ := fun V (hV : Below (v1.heap.size + 1) (v1.alloc (.cells #[.int .i64 n0, .int .i64 n1, .int .i64 n2, .int .i64 n3, .int .i64 n4, .slice none 0 0] 130)) V) => (show (∀ i, V.frozen? ⟨v1.heap.size, i, none⟩ = false) ∧ v1.heap.size < V.heap.size from ⟨fun i => by rw [hV.frozen (p := ⟨v1.heap.size, i, none⟩) (Nat.lt_succ_self v1.heap.size)]; exact frozen_new v1 _ _ i, by have := hV.size; rw [World.size_alloc] at this; omega⟩)
          have HBF := Lib.hid hbF
          have HBZ := Lib.hid hbZ
          clear hbF hbZ
          go_wp2_with fail
          refine (HFIT.out _).mono ?_
          rintro e v2 ⟨rfl, hb2⟩
          have hb2 : Below (v1.alloc (.cells #[.int .i64 n0, .int .i64 n1, .int .i64 n2, .int .i64 n3, .int .i64 n4, .slice none 0 0] 130)).heap.size (v1.alloc (.cells #[.int .i64 n0, .int .i64 n1, .int .i64 n2, .int .i64 n3, .int .i64 n4, .slice none 0 0] 130)) v2 := ⟨hb2.os, hb2.tape, hb2.output, hb2.size, hb2.block⟩
          rw [World.size_alloc] at hb2
          have hB2 : Below (w.heap.size + 1) (w.alloc (.cells #[.int .i64 0, .int .i64 0, .int .i64 0, .int .i64 0, .int .i64 0, .slice none 0 0] 130)) (v1.alloc (.cells #[.int .i64 n0, .int .i64 n1, .int .i64 n2, .int .i64 n3, .int .i64 n4, .slice none 0 0] 130)) := ⟨hB2.os, hB2.tape, hB2.output, hB2.size, hB2.block⟩
          have hB3 := hB2.trans (hb2.mono (by have := HSZ.out; omega))
          have hS3 : v1.heap.size + 1 ≤ v2.heap.size := by have := hb2.size; rw [World.size_alloc] at this; exact this
          have hSl := HSL.out.below (hHd.trans (hb2.mono (Nat.le_succ _)))
          go_wp2_with fail
          refine (HOP.out _ hSl).mono ?_
          rintro e v3 ⟨A3, c3, rfl, own3, hb3⟩
          have hB4 := hB3.trans (hb3.mono (Nat.le_trans HSZ.out (by omega)))
          have hF3 := hb2.trans (hb3.mono hS3)
          have hS4 : v1.heap.size + 1 ≤ v3.heap.size := Nat.le_trans hS3 hb3.size
          clear hb3 hb2 hB2 hB3
          have hc93 := own_le own3
          obtain ⟨g, rfl, hg1, hg2, hg3⟩ := own_at own3 (by decide)
          have hsd := (Sl.of_own own3).seg 13 d
          rw [HSG.out, Nat.zero_add] at hsd
          have hp1 : (13 : Int) + (d : Int) ≤ (c3 : Int) := by omega
          have hp2 : (13 : Int) ≤ 13 + (d : Int) := by omega
          have hp3 : ¬ c3 = 13 := by omega
          clear hc93 own3
          go_wp2_with fail
          have hcl := HCL.out (some ⟨g, 13, none⟩) (c3 - 13) v3 hsd
          refine hcl.mono ?_
          rintro e v4 ⟨⟨A4, c4, rfl, own4⟩, hb4⟩
          have hB5 := hB4.trans (hb4.mono (Nat.le_trans HSZ.out (by omega)))
          have hF4 := hF3.trans (hb4.mono hS4)
          have hS5 : v1.heap.size + 1 ≤ v4.heap.size := Nat.le_trans hS4 hb4.size
          clear hb4 hcl hB4 hF3
          obtain ⟨z0, z1, z2, z3, z4, z5⟩ := HBF.out _ hF4
          obtain ⟨hzz, hzl⟩ := HBZ.out _ hF4
          obtain ⟨y0, y1, y2, y3, y4, y5⟩ := HBX.out _ hB5
          obtain ⟨hfz, hglt⟩ := HFZ.out _ hB5
          have hne := HNE.out
          have hBw2 : Below w.heap.size w v4 := ((Below.refl _ w).alloc (Nat.le_refl _) _).trans (hB5.mono (Nat.le_succ _))
          go_wp2_with fail
          have hge := own_ge own4
          have hw7 : ∀ k, (Value.slice A4 d c4).ownBlock = some k → w.heap.size < k ∧ v1.heap.size < k := fun k hk => by have := hge k hk; have := HSZ.out; omega
          have own5 := own_far1 own4 (p := ⟨v1.heap.size, 5, none⟩) (fun e => by have := (hw7 _ e).2; simp at this) (.slice A4 d c4)
          have own5 := own_far1 (own_far1 (own_far1 (own_far1 (own_far1 (own_far1 own5 (p := ⟨w.heap.size, 0, none⟩) (fun e => by have := (hw7 _ e).1; simp at this) (.int .i64 n0)) (p := ⟨w.heap.size, 1, none⟩) (fun e => by have := (hw7 _ e).1; simp at this) (.int .i64 n1)) (p := ⟨w.heap.size, 2, none⟩) (fun e => by have := (hw7 _ e).1; simp at this) (.int .i64 n2)) (p := ⟨w.heap.size, 3, none⟩) (fun e => by have := (hw7 _ e).1; simp at this) (.int .i64 n3)) (p := ⟨w.heap.size, 4, none⟩) (fun e => by have := (hw7 _ e).1; simp at this) (.int .i64 n4)) (p := ⟨w.heap.size, 5, none⟩) (fun e => by have := (hw7 _ e).1; simp at this) (.slice A4 d c4)
          have own6 := own_base own5 (show w.heap.size ≤ v3.heap.size by have := HSZ.out; omega)
          have hval := HVAL.out A4 c4
          refine bodyPost_ret (v := .tuple #[.agg #[.int .i64 n0, .int .i64 n1, .int .i64 n2, .int .i64 n3, .int .i64 n4, .slice A4 d c4], .int .i64 0]) ?_ rfl ⟨⟨A4, c4, by rw [hval], by rw [HLN.out.2, HLN.out.1]; exact own6⟩, ?_⟩
          · simp [results, Try.results92, go_sem, cell_set, y0, y1, y2, y3, y4, y5]
          · exact Below.setCell (Below.setCell (Below.setCell (Below.setCell (Below.setCell (Below.setCell (Below.setCell hBw2 (p := ⟨v1.heap.size, 5, none⟩) (show w.heap.size ≤ v1.heap.size by have := HSZ.out; omega) _) (Nat.le_refl _) _) (Nat.le_refl _) _) (Nat.le_refl _) _) (Nat.le_refl _) _) (Nat.le_refl _) _) (Nat.le_refl _) _
      · have hHd := hHeld
        skip
        have hHp := hHeld
        have hKeep := since_alloc hHeld (.cells #[.int .i64 0, .int .i64 0, .int .i64 0, .int .i64 0, .int .i64 0, .slice none 0 0] 130)
        go_simp
        refine hK.out _ _ (by (try dsimp only); exact hKeep) (fun hHeld => ?_); clear hK K hKeep; try simp only [pqZ]
        refine rdZ 8 35 rfl (by kernel_rfl) (fun K hK => ?_)
        go_simp
        refine (HG8.out _ hHeld).mono ?_
        rintro e x8 ⟨rfl, rfl⟩
        have hKeep := hHeld
        go_wp2_with fail
        refine hK.out _ _ (by (try dsimp only); exact hKeep) (fun hHeld => ?_); clear hK K hKeep; try simp only [pqZ]
        refine rdZ 11 38 rfl (by kernel_rfl) (fun K hK => ?_)
        go_simp
        refine (HG11.out _ hHeld).mono ?_
        rintro e x11 ⟨rfl, rfl⟩
        have hKeep := hHeld
        go_wp2_with fail
        refine hK.out _ _ (by (try dsimp only); exact hKeep) (fun hHeld => ?_); clear hK K hKeep; try simp only [pqZ]
        refine rdZ 14 41 rfl (by kernel_rfl) (fun K hK => ?_)
        go_simp
        refine (HG14.out _ hHeld).mono ?_
        rintro e x14 ⟨rfl, rfl⟩
        have hKeep := hHeld
        go_wp2_with fail
        refine hK.out _ _ (by (try dsimp only); exact hKeep) (fun hHeld => ?_); clear hK K hKeep; try simp only [pqZ]
        refine tkI 15 42 rfl (by intro w hSw; skip; go_simp <;> with_reducible rfl) hHeld ?_; simp only [pqZ]
        refine wpAnyH_ready (rs := [17]) (by kernel_rfl) (by simp) ?_
        refine AllReadyH.cons (o := ⟨none, _, _, _, _, _⟩) rfl (fun K hK => ?_) AllReadyH.nil
        have hHd := hHeld
        skip
        have hKeep := since_alloc hHp (.cells #[.int .i64 n0, .int .i64 n1, .int .i64 n2, .int .i64 n3, .int .i64 n4, .slice none 0 0] 130)
        skip
        go_simp
        refine hK.out _ _ (by (try dsimp only); exact hKeep) (fun hHeld => ?_); clear hK K hKeep; try simp only [pqZ]
        refine wpAnyH_done (by kernel_rfl) ?_ _
        clear hHp
        have hB2 := HB0.out.trans (hHeld.mono HSZ.out)
        have hHd : Below v1.heap.size v1 (v1.alloc (.cells #[.int .i64 n0, .int .i64 n1, .int .i64 n2, .int .i64 n3, .int .i64 n4, .slice none 0 0] 130)) := ⟨hHeld.os, hHeld.tape, hHeld.output, hHeld.size, hHeld.block⟩
        have hbF := fun V (hV : Below (v1.heap.size + 1) (v1.alloc (.cells #[.int .i64 n0, .int .i64 n1, .int .i64 n2, .int .i64 n3, .int .i64 n4, .slice none 0 0] 130)) V) => box6 (w := v1) (V := V) (by rw [World.size_alloc]; exact hV)
        have hbZ := fun V (hV : Below (v1.heap.size + 1) (v1.alloc (.cells #[.int .i64 n0, .int .i64 n1, .int .i64 n2, .int .i64 n3, .int .i64 n4, .slice none 0 0] 130)) V) => (show (∀ i, V.frozen? ⟨v1.heap.size, i, none⟩ = false) ∧ v1.heap.size < V.heap.size from ⟨fun i => by rw [hV.frozen (p := ⟨v1.heap.size, i, none⟩) (Nat.lt_succ_self v1.heap.size)]; exact frozen_new v1 _ _ i, by have := hV.size; rw [World.size_alloc] at this; omega⟩)
        have HBF := Lib.hid hbF
        have HBZ := Lib.hid hbZ
        clear hbF hbZ
        go_wp2_with fail
        refine (HFIT.out _).mono ?_
        rintro e v2 ⟨rfl, hb2⟩
        have hb2 : Below (v1.alloc (.cells #[.int .i64 n0, .int .i64 n1, .int .i64 n2, .int .i64 n3, .int .i64 n4, .slice none 0 0] 130)).heap.size (v1.alloc (.cells #[.int .i64 n0, .int .i64 n1, .int .i64 n2, .int .i64 n3, .int .i64 n4, .slice none 0 0] 130)) v2 := ⟨hb2.os, hb2.tape, hb2.output, hb2.size, hb2.block⟩
        rw [World.size_alloc] at hb2
        have hB2 : Below (w.heap.size + 1) (w.alloc (.cells #[.int .i64 0, .int .i64 0, .int .i64 0, .int .i64 0, .int .i64 0, .slice none 0 0] 130)) (v1.alloc (.cells #[.int .i64 n0, .int .i64 n1, .int .i64 n2, .int .i64 n3, .int .i64 n4, .slice none 0 0] 130)) := ⟨hB2.os, hB2.tape, hB2.output, hB2.size, hB2.block⟩
        have hB3 := hB2.trans (hb2.mono (by have := HSZ.out; omega))
        have hS3 : v1.heap.size + 1 ≤ v2.heap.size := by have := hb2.size; rw [World.size_alloc] at this; exact this
        have hSl := HSL.out.below (hHd.trans (hb2.mono (Nat.le_succ _)))
        go_wp2_with fail
        refine (HOP.out _ hSl).mono ?_
        rintro e v3 ⟨A3, c3, rfl, own3, hb3⟩
        have hB4 := hB3.trans (hb3.mono (Nat.le_trans HSZ.out (by omega)))
        have hF3 := hb2.trans (hb3.mono hS3)
        have hS4 : v1.heap.size + 1 ≤ v3.heap.size := Nat.le_trans hS3 hb3.size
        clear hb3 hb2 hB2 hB3
        have hc93 := own_le own3
        obtain ⟨g, rfl, hg1, hg2, hg3⟩ := own_at own3 (by decide)
        have hsd := (Sl.of_own own3).seg 13 d
        rw [HSG.out, Nat.zero_add] at hsd
        have hp1 : (13 : Int) + (d : Int) ≤ (c3 : Int) := by omega
        have hp2 : (13 : Int) ≤ 13 + (d : Int) := by omega
        have hp3 : ¬ c3 = 13 := by omega
        clear hc93 own3
        go_wp2_with fail
        have hcl := HCL.out (some ⟨g, 13, none⟩) (c3 - 13) v3 hsd
        refine hcl.mono ?_
        rintro e v4 ⟨⟨A4, c4, rfl, own4⟩, hb4⟩
        have hB5 := hB4.trans (hb4.mono (Nat.le_trans HSZ.out (by omega)))
        have hF4 := hF3.trans (hb4.mono hS4)
        have hS5 : v1.heap.size + 1 ≤ v4.heap.size := Nat.le_trans hS4 hb4.size
        clear hb4 hcl hB4 hF3
        obtain ⟨z0, z1, z2, z3, z4, z5⟩ := HBF.out _ hF4
        obtain ⟨hzz, hzl⟩ := HBZ.out _ hF4
        obtain ⟨y0, y1, y2, y3, y4, y5⟩ := HBX.out _ hB5
        obtain ⟨hfz, hglt⟩ := HFZ.out _ hB5
        have hne := HNE.out
        have hBw2 : Below w.heap.size w v4 := ((Below.refl _ w).alloc (Nat.le_refl _) _).trans (hB5.mono (Nat.le_succ _))
        go_wp2_with fail
        have hge := own_ge own4
        have hw7 : ∀ k, (Value.slice A4 d c4).ownBlock = some k → w.heap.size < k ∧ v1.heap.size < k := fun k hk => by have := hge k hk; have := HSZ.out; omega
        have own5 := own_far1 own4 (p := ⟨v1.heap.size, 5, none⟩) (fun e => by have := (hw7 _ e).2; simp at this) (.slice A4 d c4)
        have own5 := own_far1 (own_far1 (own_far1 (own_far1 (own_far1 (own_far1 own5 (p := ⟨w.heap.size, 0, none⟩) (fun e => by have := (hw7 _ e).1; simp at this) (.int .i64 n0)) (p := ⟨w.heap.size, 1, none⟩) (fun e => by have := (hw7 _ e).1; simp at this) (.int .i64 n1)) (p := ⟨w.heap.size, 2, none⟩) (fun e => by have := (hw7 _ e).1; simp at this) (.int .i64 n2)) (p := ⟨w.heap.size, 3, none⟩) (fun e => by have := (hw7 _ e).1; simp at this) (.int .i64 n3)) (p := ⟨w.heap.size, 4, none⟩) (fun e => by have := (hw7 _ e).1; simp at this) (.int .i64 n4)) (p := ⟨w.heap.size, 5, none⟩) (fun e => by have := (hw7 _ e).1; simp at this) (.slice A4 d c4)
        have own6 := own_base own5 (show w.heap.size ≤ v3.heap.size by have := HSZ.out; omega)
        have hval := HVAL.out A4 c4
        refine bodyPost_ret (v := .tuple #[.agg #[.int .i64 n0, .int .i64 n1, .int .i64 n2, .int .i64 n3, .int .i64 n4, .slice A4 d c4], .int .i64 0]) ?_ rfl ⟨⟨A4, c4, by rw [hval], by rw [HLN.out.2, HLN.out.1]; exact own6⟩, ?_⟩
        · simp [results, Try.results92, go_sem, cell_set, y0, y1, y2, y3, y4, y5]
        · exact Below.setCell (Below.setCell (Below.setCell (Below.setCell (Below.setCell (Below.setCell (Below.setCell hBw2 (p := ⟨v1.heap.size, 5, none⟩) (show w.heap.size ≤ v1.heap.size by have := HSZ.out; omega) _) (Nat.le_refl _) _) (Nat.le_refl _) _) (Nat.le_refl _) _) (Nat.le_refl _) _) (Nat.le_refl _) _) (Nat.le_refl _) _
    · have hHd := hHeld
      skip
      have hHp := hHeld
      have hKeep := since_alloc hHeld (.cells #[.int .i64 0, .int .i64 0, .int .i64 0, .int .i64 0, .int .i64 0, .slice none 0 0] 130)
      go_simp
      refine hK.out _ _ (by (try dsimp only); exact hKeep) (fun hHeld => ?_); clear hK K hKeep; try simp only [pqZ]
      refine rdZ 5 32 rfl (by kernel_rfl) (fun K hK => ?_)
      go_simp
      refine (HG5.out _ hHeld).mono ?_
      rintro e x5 ⟨rfl, rfl⟩
      have hKeep := hHeld
      go_wp2_with fail
      refine hK.out _ _ (by (try dsimp only); exact hKeep) (fun hHeld => ?_); clear hK K hKeep; try simp only [pqZ]
      refine rdZ 8 35 rfl (by kernel_rfl) (fun K hK => ?_)
      go_simp
      refine (HG8.out _ hHeld).mono ?_
      rintro e x8 ⟨rfl, rfl⟩
      have hKeep := hHeld
      go_wp2_with fail
      refine hK.out _ _ (by (try dsimp only); exact hKeep) (fun hHeld => ?_); clear hK K hKeep; try simp only [pqZ]
      refine rdZ 11 38 rfl (by kernel_rfl) (fun K hK => ?_)
      go_simp
      refine (HG11.out _ hHeld).mono ?_
      rintro e x11 ⟨rfl, rfl⟩
      have hKeep := hHeld
      go_wp2_with fail
      refine hK.out _ _ (by (try dsimp only); exact hKeep) (fun hHeld => ?_); clear hK K hKeep; try simp only [pqZ]
      refine rdZ 14 41 rfl (by kernel_rfl) (fun K hK => ?_)
      go_simp
      refine (HG14.out _ hHeld).mono ?_
      rintro e x14 ⟨rfl, rfl⟩
      have hKeep := hHeld
      go_wp2_with fail
      refine hK.out _ _ (by (try dsimp only); exact hKeep) (fun hHeld => ?_); clear hK K hKeep; try simp only [pqZ]
      refine tkI 15 42 rfl (by intro w hSw; skip; go_simp <;> with_reducible rfl) hHeld ?_; simp only [pqZ]
      refine wpAnyH_ready (rs := [17]) (by kernel_rfl) (by simp) ?_
      refine AllReadyH.cons (o := ⟨none, _, _, _, _, _⟩) rfl (fun K hK => ?_) AllReadyH.nil
      have hHd := hHeld
      skip
      have hKeep := since_alloc hHp (.cells #[.int .i64 n0, .int .i64 n1, .int .i64 n2, .int .i64 n3, .int .i64 n4, .slice none 0 0] 130)
      skip
      go_simp
      refine hK.out _ _ (by (try dsimp only); exact hKeep) (fun hHeld => ?_); clear hK K hKeep; try simp only [pqZ]
      refine wpAnyH_done (by kernel_rfl) ?_ _
      clear hHp
      have hB2 := HB0.out.trans (hHeld.mono HSZ.out)
      have hHd : Below v1.heap.size v1 (v1.alloc (.cells #[.int .i64 n0, .int .i64 n1, .int .i64 n2, .int .i64 n3, .int .i64 n4, .slice none 0 0] 130)) := ⟨hHeld.os, hHeld.tape, hHeld.output, hHeld.size, hHeld.block⟩
      have hbF := fun V (hV : Below (v1.heap.size + 1) (v1.alloc (.cells #[.int .i64 n0, .int .i64 n1, .int .i64 n2, .int .i64 n3, .int .i64 n4, .slice none 0 0] 130)) V) => box6 (w := v1) (V := V) (by rw [World.size_alloc]; exact hV)
      have hbZ := fun V (hV : Below (v1.heap.size + 1) (v1.alloc (.cells #[.int .i64 n0, .int .i64 n1, .int .i64 n2, .int .i64 n3, .int .i64 n4, .slice none 0 0] 130)) V) => (show (∀ i, V.frozen? ⟨v1.heap.size, i, none⟩ = false) ∧ v1.heap.size < V.heap.size from ⟨fun i => by rw [hV.frozen (p := ⟨v1.heap.size, i, none⟩) (Nat.lt_succ_self v1.heap.size)]; exact frozen_new v1 _ _ i, by have := hV.size; rw [World.size_alloc] at this; omega⟩)
      have HBF := Lib.hid hbF
      have HBZ := Lib.hid hbZ
      clear hbF hbZ
      go_wp2_with fail
      refine (HFIT.out _).mono ?_
      rintro e v2 ⟨rfl, hb2⟩
      have hb2 : Below (v1.alloc (.cells #[.int .i64 n0, .int .i64 n1, .int .i64 n2, .int .i64 n3, .int .i64 n4, .slice none 0 0] 130)).heap.size (v1.alloc (.cells #[.int .i64 n0, .int .i64 n1, .int .i64 n2, .int .i64 n3, .int .i64 n4, .slice none 0 0] 130)) v2 := ⟨hb2.os, hb2.tape, hb2.output, hb2.size, hb2.block⟩
      rw [World.size_alloc] at hb2
      have hB2 : Below (w.heap.size + 1) (w.alloc (.cells #[.int .i64 0, .int .i64 0, .int .i64 0, .int .i64 0, .int .i64 0, .slice none 0 0] 130)) (v1.alloc (.cells #[.int .i64 n0, .int .i64 n1, .int .i64 n2, .int .i64 n3, .int .i64 n4, .slice none 0 0] 130)) := ⟨hB2.os, hB2.tape, hB2.output, hB2.size, hB2.block⟩
      have hB3 := hB2.trans (hb2.mono (by have := HSZ.out; omega))
      have hS3 : v1.heap.size + 1 ≤ v2.heap.size := by have := hb2.size; rw [World.size_alloc] at this; exact this
      have hSl := HSL.out.below (hHd.trans (hb2.mono (Nat.le_succ _)))
      go_wp2_with fail
      refine (HOP.out _ hSl).mono ?_
      rintro e v3 ⟨A3, c3, rfl, own3, hb3⟩
      have hB4 := hB3.trans (hb3.mono (Nat.le_trans HSZ.out (by omega)))
      have hF3 := hb2.trans (hb3.mono hS3)
      have hS4 : v1.heap.size + 1 ≤ v3.heap.size := Nat.le_trans hS3 hb3.size
      clear hb3 hb2 hB2 hB3
      have hc93 := own_le own3
      obtain ⟨g, rfl, hg1, hg2, hg3⟩ := own_at own3 (by decide)
      have hsd := (Sl.of_own own3).seg 13 d
      rw [HSG.out, Nat.zero_add] at hsd
      have hp1 : (13 : Int) + (d : Int) ≤ (c3 : Int) := by omega
      have hp2 : (13 : Int) ≤ 13 + (d : Int) := by omega
      have hp3 : ¬ c3 = 13 := by omega
      clear hc93 own3
      go_wp2_with fail
      have hcl := HCL.out (some ⟨g, 13, none⟩) (c3 - 13) v3 hsd
      refine hcl.mono ?_
      rintro e v4 ⟨⟨A4, c4, rfl, own4⟩, hb4⟩
      have hB5 := hB4.trans (hb4.mono (Nat.le_trans HSZ.out (by omega)))
      have hF4 := hF3.trans (hb4.mono hS4)
      have hS5 : v1.heap.size + 1 ≤ v4.heap.size := Nat.le_trans hS4 hb4.size
      clear hb4 hcl hB4 hF3
      obtain ⟨z0, z1, z2, z3, z4, z5⟩ := HBF.out _ hF4
      obtain ⟨hzz, hzl⟩ := HBZ.out _ hF4
      obtain ⟨y0, y1, y2, y3, y4, y5⟩ := HBX.out _ hB5
      obtain ⟨hfz, hglt⟩ := HFZ.out _ hB5
      have hne := HNE.out
      have hBw2 : Below w.heap.size w v4 := ((Below.refl _ w).alloc (Nat.le_refl _) _).trans (hB5.mono (Nat.le_succ _))
      go_wp2_with fail
      have hge := own_ge own4
      have hw7 : ∀ k, (Value.slice A4 d c4).ownBlock = some k → w.heap.size < k ∧ v1.heap.size < k := fun k hk => by have := hge k hk; have := HSZ.out; omega
      have own5 := own_far1 own4 (p := ⟨v1.heap.size, 5, none⟩) (fun e => by have := (hw7 _ e).2; simp at this) (.slice A4 d c4)
      have own5 := own_far1 (own_far1 (own_far1 (own_far1 (own_far1 (own_far1 own5 (p := ⟨w.heap.size, 0, none⟩) (fun e => by have := (hw7 _ e).1; simp at this) (.int .i64 n0)) (p := ⟨w.heap.size, 1, none⟩) (fun e => by have := (hw7 _ e).1; simp at this) (.int .i64 n1)) (p := ⟨w.heap.size, 2, none⟩) (fun e => by have := (hw7 _ e).1; simp at this) (.int .i64 n2)) (p := ⟨w.heap.size, 3, none⟩) (fun e => by have := (hw7 _ e).1; simp at this) (.int .i64 n3)) (p := ⟨w.heap.size, 4, none⟩) (fun e => by have := (hw7 _ e).1; simp at this) (.int .i64 n4)) (p := ⟨w.heap.size, 5, none⟩) (fun e => by have := (hw7 _ e).1; simp at this) (.slice A4 d c4)
      have own6 := own_base own5 (show w.heap.size ≤ v3.heap.size by have := HSZ.out; omega)
      have hval := HVAL.out A4 c4
      refine bodyPost_ret (v := .tuple #[.agg #[.int .i64 n0, .int .i64 n1, .int .i64 n2, .int .i64 n3, .int .i64 n4, .slice A4 d c4], .int .i64 0]) ?_ rfl ⟨⟨A4, c4, by rw [hval], by rw [HLN.out.2, HLN.out.1]; exact own6⟩, ?_⟩
      · simp [results, Try.results92, go_sem, cell_set, y0, y1, y2, y3, y4, y5]
      · exact Below.setCell (Below.setCell (Below.setCell (Below.setCell (Below.setCell (Below.setCell (Below.setCell hBw2 (p := ⟨v1.heap.size, 5, none⟩) (show w.heap.size ≤ v1.heap.size by have := HSZ.out; omega) _) (Nat.le_refl _) _) (Nat.le_refl _) _) (Nat.le_refl _) _) (Nat.le_refl _) _) (Nat.le_refl _) _) (Nat.le_refl _) _
  · have hHd := hHeld
    skip
    have hHp := hHeld
    have hKeep := since_alloc hHeld (.cells #[.int .i64 0, .int .i64 0, .int .i64 0, .int .i64 0, .int .i64 0, .slice none 0 0] 130)
    go_simp
    refine hK.out _ _ (by (try dsimp only); exact hKeep) (fun hHeld => ?_); clear hK K hKeep; try simp only [pqZ]
    refine rdZ 2 29 rfl (by kernel_rfl) (fun K hK => ?_)
    go_simp
    refine (HG2.out _ hHeld).mono ?_
    rintro e x2 ⟨rfl, rfl⟩
    have hKeep := hHeld
    go_wp2_with fail
    refine hK.out _ _ (by (try dsimp only); exact hKeep) (fun hHeld => ?_); clear hK K hKeep; try simp only [pqZ]
    refine rdZ 5 32 rfl (by kernel_rfl) (fun K hK => ?_)
    go_simp
    refine (HG5.out _ hHeld).mono ?_
    rintro e x5 ⟨rfl, rfl⟩
    have hKeep := hHeld
    go_wp2_with fail
    refine hK.out _ _ (by (try dsimp only); exact hKeep) (fun hHeld => ?_); clear hK K hKeep; try simp only [pqZ]
    refine rdZ 8 35 rfl (by kernel_rfl) (fun K hK => ?_)
    go_simp
    refine (HG8.out _ hHeld).mono ?_
    rintro e x8 ⟨rfl, rfl⟩
    have hKeep := hHeld
    go_wp2_with fail
    refine hK.out _ _ (by (try dsimp only); exact hKeep) (fun hHeld => ?_); clear hK K hKeep; try simp only [pqZ]
    refine rdZ 11 38 rfl (by kernel_rfl) (fun K hK => ?_)
    go_simp
    refine (HG11.out _ hHeld).mono ?_
    rintro e x11 ⟨rfl, rfl⟩
    have hKeep := hHeld
    go_wp2_with fail
    refine hK.out _ _ (by (try dsimp only); exact hKeep) (fun hHeld => ?_); clear hK K hKeep; try simp only [pqZ]
    refine rdZ 14 41 rfl (by kernel_rfl) (fun K hK => ?_)
    go_simp
    refine (HG14.out _ hHeld).mono ?_
    rintro e x14 ⟨rfl, rfl⟩
    have hKeep := hHeld
    go_wp2_with fail
    refine hK.out _ _ (by (try dsimp only); exact hKeep) (fun hHeld => ?_); clear hK K hKeep; try simp only [pqZ]
    refine tkI 15 42 rfl (by intro w hSw; skip; go_simp <;> with_reducible rfl) hHeld ?_; simp only [pqZ]
    refine wpAnyH_ready (rs := [17]) (by kernel_rfl) (by simp) ?_
    refine AllReadyH.cons (o := ⟨none, _, _, _, _, _⟩) rfl (fun K hK => ?_) AllReadyH.nil
    have hHd := hHeld
    skip
    have hKeep := since_alloc hHp (.cells #[.int .i64 n0, .int .i64 n1, .int .i64 n2, .int .i64 n3, .int .i64 n4, .slice none 0 0] 130)
    skip
    go_simp
    refine hK.out _ _ (by (try dsimp only); exact hKeep) (fun hHeld => ?_); clear hK K hKeep; try simp only [pqZ]
    refine wpAnyH_done (by kernel_rfl) ?_ _
    clear hHp
    have hB2 := HB0.out.trans (hHeld.mono HSZ.out)
    have hHd : Below v1.heap.size v1 (v1.alloc (.cells #[.int .i64 n0, .int .i64 n1, .int .i64 n2, .int .i64 n3, .int .i64 n4, .slice none 0 0] 130)) := ⟨hHeld.os, hHeld.tape, hHeld.output, hHeld.size, hHeld.block⟩
    have hbF := fun V (hV : Below (v1.heap.size + 1) (v1.alloc (.cells #[.int .i64 n0, .int .i64 n1, .int .i64 n2, .int .i64 n3, .int .i64 n4, .slice none 0 0] 130)) V) => box6 (w := v1) (V := V) (by rw [World.size_alloc]; exact hV)
    have hbZ := fun V (hV : Below (v1.heap.size + 1) (v1.alloc (.cells #[.int .i64 n0, .int .i64 n1, .int .i64 n2, .int .i64 n3, .int .i64 n4, .slice none 0 0] 130)) V) => (show (∀ i, V.frozen? ⟨v1.heap.size, i, none⟩ = false) ∧ v1.heap.size < V.heap.size from ⟨fun i => by rw [hV.frozen (p := ⟨v1.heap.size, i, none⟩) (Nat.lt_succ_self v1.heap.size)]; exact frozen_new v1 _ _ i, by have := hV.size; rw [World.size_alloc] at this; omega⟩)
    have HBF := Lib.hid hbF
    have HBZ := Lib.hid hbZ
    clear hbF hbZ
    go_wp2_with fail
    refine (HFIT.out _).mono ?_
    rintro e v2 ⟨rfl, hb2⟩
    have hb2 : Below (v1.alloc (.cells #[.int .i64 n0, .int .i64 n1, .int .i64 n2, .int .i64 n3, .int .i64 n4, .slice none 0 0] 130)).heap.size (v1.alloc (.cells #[.int .i64 n0, .int .i64 n1, .int .i64 n2, .int .i64 n3, .int .i64 n4, .slice none 0 0] 130)) v2 := ⟨hb2.os, hb2.tape, hb2.output, hb2.size, hb2.block⟩
    rw [World.size_alloc] at hb2
    have hB2 : Below (w.heap.size + 1) (w.alloc (.cells #[.int .i64 0, .int .i64 0, .int .i64 0, .int .i64 0, .int .i64 0, .slice none 0 0] 130)) (v1.alloc (.cells #[.int .i64 n0, .int .i64 n1, .int .i64 n2, .int .i64 n3, .int .i64 n4, .slice none 0 0] 130)) := ⟨hB2.os, hB2.tape, hB2.output, hB2.size, hB2.block⟩
    have hB3 := hB2.trans (hb2.mono (by have := HSZ.out; omega))
    have hS3 : v1.heap.size + 1 ≤ v2.heap.size := by have := hb2.size; rw [World.size_alloc] at this; exact this
    have hSl := HSL.out.below (hHd.trans (hb2.mono (Nat.le_succ _)))
    go_wp2_with fail
    refine (HOP.out _ hSl).mono ?_
    rintro e v3 ⟨A3, c3, rfl, own3, hb3⟩
    have hB4 := hB3.trans (hb3.mono (Nat.le_trans HSZ.out (by omega)))
    have hF3 := hb2.trans (hb3.mono hS3)
    have hS4 : v1.heap.size + 1 ≤ v3.heap.size := Nat.le_trans hS3 hb3.size
    clear hb3 hb2 hB2 hB3
    have hc93 := own_le own3
    obtain ⟨g, rfl, hg1, hg2, hg3⟩ := own_at own3 (by decide)
    have hsd := (Sl.of_own own3).seg 13 d
    rw [HSG.out, Nat.zero_add] at hsd
    have hp1 : (13 : Int) + (d : Int) ≤ (c3 : Int) := by omega
    have hp2 : (13 : Int) ≤ 13 + (d : Int) := by omega
    have hp3 : ¬ c3 = 13 := by omega
    clear hc93 own3
    go_wp2_with fail
    have hcl := HCL.out (some ⟨g, 13, none⟩) (c3 - 13) v3 hsd
    refine hcl.mono ?_
    rintro e v4 ⟨⟨A4, c4, rfl, own4⟩, hb4⟩
    have hB5 := hB4.trans (hb4.mono (Nat.le_trans HSZ.out (by omega)))
    have hF4 := hF3.trans (hb4.mono hS4)
    have hS5 : v1.heap.size + 1 ≤ v4.heap.size := Nat.le_trans hS4 hb4.size
    clear hb4 hcl hB4 hF3
    obtain ⟨z0, z1, z2, z3, z4, z5⟩ := HBF.out _ hF4
    obtain ⟨hzz, hzl⟩ := HBZ.out _ hF4
    obtain ⟨y0, y1, y2, y3, y4, y5⟩ := HBX.out _ hB5
    obtain ⟨hfz, hglt⟩ := HFZ.out _ hB5
    have hne := HNE.out
    have hBw2 : Below w.heap.size w v4 := ((Below.refl _ w).alloc (Nat.le_refl _) _).trans (hB5.mono (Nat.le_succ _))
    go_wp2_with fail
    have hge := own_ge own4
    have hw7 : ∀ k, (Value.slice A4 d c4).ownBlock = some k → w.heap.size < k ∧ v1.heap.size < k := fun k hk => by have := hge k hk; have := HSZ.out; omega
    have own5 := own_far1 own4 (p := ⟨v1.heap.size, 5, none⟩) (fun e => by have := (hw7 _ e).2; simp at this) (.slice A4 d c4)
    have own5 := own_far1 (own_far1 (own_far1 (own_far1 (own_far1 (own_far1 own5 (p := ⟨w.heap.size, 0, none⟩) (fun e => by have := (hw7 _ e).1; simp at this) (.int .i64 n0)) (p := ⟨w.heap.size, 1, none⟩) (fun e => by have := (hw7 _ e).1; simp at this) (.int .i64 n1)) (p := ⟨w.heap.size, 2, none⟩) (fun e => by have := (hw7 _ e).1; simp at this) (.int .i64 n2)) (p := ⟨w.heap.size, 3, none⟩) (fun e => by have := (hw7 _ e).1; simp at this) (.int .i64 n3)) (p := ⟨w.heap.size, 4, none⟩) (fun e => by have := (hw7 _ e).1; simp at this) (.int .i64 n4)) (p := ⟨w.heap.size, 5, none⟩) (fun e => by have := (hw7 _ e).1; simp at this) (.slice A4 d c4)
    have own6 := own_base own5 (show w.heap.size ≤ v3.heap.size by have := HSZ.out; omega)
    have hval := HVAL.out A4 c4
    refine bodyPost_ret (v := .tuple #[.agg #[.int .i64 n0, .int .i64 n1, .int .i64 n2, .int .i64 n3, .int .i64 n4, .slice A4 d c4], .int .i64 0]) ?_ rfl ⟨⟨A4, c4, by rw [hval], by rw [HLN.out.2, HLN.out.1]; exact own6⟩, ?_⟩
    · simp [results, Try.results92, go_sem, cell_set, y0, y1, y2, y3, y4, y5]
    · exact Below.setCell (Below.setCell (Below.setCell (Below.setCell (Below.setCell (Below.setCell (Below.setCell hBw2 (p := ⟨v1.heap.size, 5, none⟩) (show w.heap.size ≤ v1.heap.size by have := HSZ.out; omega) _) (Nat.le_refl _) _) (Nat.le_refl _) _) (Nat.le_refl _) _) (Nat.le_refl _) _) (Nat.le_refl _) _) (Nat.le_refl _) _
theorem decF_big {l : List Nat} (h96 : l.length = 96) (hd : 80 < l.getD 12 0) : decF l = (Fr0, 3) := by
  refine decF_bad (Bool.eq_false_iff.2 fun h => ?_)
  have h := ((Fr.ok_iff _).1 h).2.2.2.2.2.2.2.2.2.2
  unfold cand seg at h
  simp only [List.length_take, List.length_drop] at h
  omega
theorem fdec7_any (A : Option Addr) (c : Nat) (l : List Nat) (w : World) (hlc : l.length ≤ c) (hcm : c ≤ maxLen) (hs : Sl w A (by8 l)) (ho : Oct l) :
    Calls Try.prog 92 #[.slice A l.length c] w fun e w' => DRes w.heap.size w' e (decF l) ∧ Below w.heap.size w w' := by
  by_cases h96 : l.length = 96
  · obtain ⟨b, o, rfl, _⟩ := hs.byte (j := 0) (by omega)
    by_cases hd : l.getD 12 0 ≤ 80
    · cases hz : blankF (seg l (13 + l.getD 12 0) (80 - l.getD 12 0)) with
      | false =>
        rw [decF_no (cand_body_not h96 ho hd hz), h96]
        exact fdec7_dirty b o c l w h96 (by omega) hcm hs ho hd hz
      | true =>
        cases hok : (cand l).ok with
        | false =>
          rw [decF_bad hok, h96]
          exact fdec7_unfit b o c l w h96 (by omega) hcm hs ho hd hz hok
        | true =>
          by_cases hy : sealed (cand l).body = l
          · rw [decF_yes h96 hok hy, h96]
            exact fdec7_ok b o c l w h96 (by omega) hcm hs ho hd hz hok hy
          · rw [decF_no hy, h96]
            exact fdec7_bad b o c l w h96 (by omega) hcm hs ho hd hz hok hy
    · have hcd : w.cell? ⟨b, o + 12, none⟩ = some (.int .u8 (l.getD 12 0 : Nat)) := by
        obtain ⟨_, _, e, h⟩ := hs.byte (j := 12) (by omega)
        injection e with e; injection e with e1 e2; subst e1; subst e2
        rw [h, List.getD_eq_getElem?_getD, List.getElem?_eq_getElem (by omega)]
        rfl
      have hx : l.getD 12 0 < 256 := by
        rw [List.getD_eq_getElem?_getD, List.getElem?_eq_getElem (by omega)]
        exact ho.at_ (by omega)
      rw [decF_big h96 (by omega), h96]
      exact fdec7_big b o c _ w (by omega) hcm (by omega) hx hcd
  · rw [decF_short h96]
    exact fdec7_short A l.length c w h96
end
end Go.Proofs.Ytiggcpfmmgmncaa
