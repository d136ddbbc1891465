import Derived.Test.YtpmnjojednbnpaaCr10
import Derived.Test.YtpmnjojednbnpaaCr14
section
namespace Go.Proofs.Ytpmnjojednbnpaa
open Go.ChangeShapes Go.WideShapes Go.ChangeAt Go.RowKit
set_option linter.unusedVariables false
set_option linter.unusedSimpArgs false

theorem ELo34 : Elem Try.prog 95 105 3 24 := Elem.mk' (z := .agg #[.int .i64 0, .int .i64 0, .int .i64 0]) (by kernel_rfl) (by kernel_rfl) (by decide) (by decide)
theorem EDb34 : Elem Try.prog 47 94 5 40 := Elem.mk' (z := .agg #[.int .i64 0, .int .i64 0, .int .i64 0, .int .i64 0, .int .i64 0]) (by kernel_rfl) (by kernel_rfl) (by decide) (by decide)
theorem rc_snoc34 {α : Type} {f : α → List Value} (R : List α) (x : α) : rc f (R ++ [x]) = rc f R ++ f x := by simp [rc]
def nC (n : Int) : List Value := [.int .i64 n]
theorem rc_nC (l : List Int) : rc nC l = ints .i64 l := by
  induction l with
  | nil => rfl
  | cons a t ih =>
    show rc nC (a :: t) = .int .i64 a :: ints .i64 t
    rw [← ih]; rfl
theorem rlongO (g : Nat) (A : Option Addr) (c : Nat) (B : List Nat) (er : Int) (w : World) (hR : Rdr w g A c B er) {x : Int} {s' : Rs} (e : rdM ⟨B, er⟩ = (x, s')) :
    Calls Try.prog 42 #[.agg #[.pointer (some ⟨g, 0, none⟩)]] w fun e w' => e = .returned (.int .i64 x) ∧ Chg g none w w' ∧ ∃ A' c', Rdr w' g A' c' s'.B s'.err := by
  have h := rlongW g A c B er w hR
  rw [e] at h
  exact h
theorem rlotO (g : Nat) (A : Option Addr) (c : Nat) (B : List Nat) (er : Int) (w : World) (hR : Rdr w g A c B er) {a b q : Int} {s' : Rs} (e : rdLo ⟨B, er⟩ = (⟨a, b, q⟩, s')) :
    Calls Try.prog 63 #[.agg #[.pointer (some ⟨g, 0, none⟩)]] w fun e w' => e = .returned (.agg #[.int .i64 a, .int .i64 b, .int .i64 q]) ∧ Chg g none w w' ∧ ∃ A' c', Rdr w' g A' c' s'.B s'.err := by
  obtain ⟨x1, s1, h1⟩ : ∃ x s, rdM ⟨B, er⟩ = (x, s) := ⟨_, _, rfl⟩
  obtain ⟨x2, s2, h2⟩ : ∃ x s, rdM s1 = (x, s) := ⟨_, _, rfl⟩
  obtain ⟨x3, s3, h3⟩ : ∃ x s, rdM s2 = (x, s) := ⟨_, _, rfl⟩
  simp only [rdLo, rdU, rd2, upLo, h1, h2, h3, Prod.mk.injEq, Lo.mk.injEq] at e
  obtain ⟨⟨rfl, rfl, rfl⟩, rfl⟩ := e
  exact rlotW g A c B er w hR h1 h2 h3
theorem rdebO (rb g : Nat) (A : Option Addr) (c : Nat) (B : List Nat) (er : Int) (w : World) (hR : Rdr w g A c B er) (hx : w.heap[rb]? = some (.cells #[.pointer (some ⟨g, 0, none⟩)] 82 (0, 0))) {a b c2 d q : Int} {s' : Rs} (e : rdDb ⟨B, er⟩ = (⟨a, b, c2, d, q⟩, s')) :
    Calls Try.prog 58 #[.pointer (some ⟨rb, 0, none⟩)] w fun e w' => e = .returned (.agg #[.int .i64 a, .int .i64 b, .int .i64 c2, .int .i64 d, .int .i64 q]) ∧ Chg g none w w' ∧ ∃ A' c', Rdr w' g A' c' s'.B s'.err := by
  obtain ⟨x1, s1, h1⟩ : ∃ x s, rdM ⟨B, er⟩ = (x, s) := ⟨_, _, rfl⟩
  obtain ⟨x2, s2, h2⟩ : ∃ x s, rdM s1 = (x, s) := ⟨_, _, rfl⟩
  obtain ⟨x3, s3, h3⟩ : ∃ x s, rdM s2 = (x, s) := ⟨_, _, rfl⟩
  obtain ⟨x4, s4, h4⟩ : ∃ x s, rdM s3 = (x, s) := ⟨_, _, rfl⟩
  obtain ⟨x5, s5, h5⟩ : ∃ x s, rdM s4 = (x, s) := ⟨_, _, rfl⟩
  simp only [rdDb, rdU, rd2, upDb, h1, h2, h3, h4, h5, Prod.mk.injEq, Db.mk.injEq] at e
  obtain ⟨⟨rfl, rfl, rfl, rfl, rfl⟩, rfl⟩ := e
  exact rdebW g rb A c B er w hR hx h1 h2 h3 h4 h5
set_option maxHeartbeats 16000000 in
set_option maxRecDepth 100000 in
theorem rlistM (g : Nat) (A : Option Addr) (c : Nat) (B : List Nat) (er mx : Int) (w : World) (hR : Rdr w g A c B er) (hm0 : 0 ≤ mx) (hm : mx ≤ 5000) {l2 : List Int} {s2 : Rs} (h12 : rdLs mx rdM ⟨B, er⟩ = (l2, s2)) :
    Calls Try.prog 41 #[.agg #[.pointer (some ⟨g, 0, none⟩)], .int .i64 mx, .func (.func 42) #[.agg #[.pointer (some ⟨g, 0, none⟩)]] #[]] w fun e w' => ∃ (N : List Int) (A' : Option Addr) (c' : Nat), e = .returned (.slice A' N.length c') ∧ (s2.err = 0 → N = l2) ∧ w'.ownsRow w.heap.size 2 1 (.slice A' (N).length c') (N).length (rc nC (N)) ∧ Chg g none w w' ∧ N.length ≤ 5000 ∧ ∃ A2 c2, Rdr w' g A2 c2 s2.B s2.err := by
  obtain ⟨n, s1, h1⟩ : ∃ n s1, rdI 0 mx ⟨B, er⟩ = (n, s1) := ⟨_, _, rfl⟩
  have h2 : rdO rdM n.toNat s1 = (l2, s2) := by
    rw [← h12]; unfold rdLs; rw [h1]
  clear h12
  have hb := since_alloc (Below.refl _ w) (.cells #[.pointer (some ⟨g, 0, none⟩)] 82)
  have hR1 := hR.below hb
  have hbx := heap_alloc_new w (.cells #[.pointer (some ⟨g, 0, none⟩)] 82)
  have HI := Lib.hid (rint4_any g A c B er 0 mx (w.alloc (.cells #[.pointer (some ⟨g, 0, none⟩)] 82)) hR1)
  rw [h1] at HI
  have hn : 0 ≤ n ∧ n ≤ mx := by
    have := rdI_within (lo := 0) (hi := mx) ⟨B, er⟩ (by decide) hm0
    rw [h1] at this
    exact this
  have HNS := Lib.hid h2
  obtain ⟨m, hmn⟩ : ∃ m : Nat, n = (m : Int) := ⟨n.toNat, by omega⟩
  subst hmn
  have hml : m ≤ 5000 := by omega
  have HR1 := Lib.hid hR1
  have HX1 := Lib.hid hbx
  have HB := Lib.hid hb
  skip
  obtain ⟨WB, hWB⟩ : ∃ WB, w.heap.size = WB := ⟨_, rfl⟩
  have HWB := Lib.hid hWB
  rw [hWB] at HX1 ⊢
  have hszb : WB ≤ w.heap.size := by omega
  have HSZ : Hid (WB ≤ (w.alloc (.cells #[.pointer (some ⟨g, 0, none⟩)] 82)).heap.size) := Lib.hid (by rw [World.size_alloc]; omega)
  have HGL : Hid (g < WB) := Lib.hid (by rw [← hWB]; exact hR.lt)
  skip
  clear hR hR1 hb hbx h1 h2 hWB hszb
  go_enter Try.func41, Try.ntmps41
  go_wp2_with fail
  refine HI.out.mono ?_
  rintro e w2 ⟨rfl, hC2, A2, c2, hR2⟩
  have hx2 := HR1.out.keepR hC2 HX1.out (fun cs t f e => by injection e with _ e2 _; subst e2; decide)
  skip
  have hC2w : Chg g none w w2 := (Chg.of_below HB.out).trans hC2 (.inl rfl)
  have hsz2 : WB ≤ w2.heap.size := Nat.le_trans HSZ.out hC2.size
  rw [HWB.out]
  have HR2 := Lib.hid hR2
  have HX2 := Lib.hid hx2
  have HC2 := Lib.hid hC2w
  clear HI hC2 hR2 hx2 hC2w HX1 HR1 HB HSZ
  go_wp2_with fail
  go_loopw [8, 9, 15] (fun ov xv iv wr => ∃ (k : Nat) (A3 : Option Addr) (c3 : Nat) (A4 : Option Addr) (c4 : Nat), k ≤ m ∧ iv = .int .i64 (k : Int) ∧ ov = .slice A3 (rdO rdM k s1).1.length c3 ∧ wr.ownsRow (WB + 1) 2 1 (.slice A3 ((rdO rdM k s1).1).length c3) ((rdO rdM k s1).1).length (rc nC ((rdO rdM k s1).1)) ∧ Rdr wr g A4 c4 (rdO rdM k s1).2.B (rdO rdM k s1).2.err ∧ Chg g none w wr ∧ wr.heap[WB]? = some (.cells #[.pointer (some ⟨g, 0, none⟩)] 82 (0, 0)) ∧ (0 < k → (rdO rdM k s1).2.err = 0)) (fun _ _ iv _ => m - (intOf iv).toNat)
  case atStart => exact ⟨0, none, 0, A2, c2, by omega, rfl, rfl, own_nil _ _ _, HR2.out, HC2.out, HX2.out, fun h => absurd h (by omega)⟩
  case round =>
    clear A2 c2 HR2 HX2 HC2
    obtain ⟨k, A3, c3, A4, c4, hk, rfl, rfl, hown, hR, hC, hx, hz⟩ := hrel
    by_cases hkm : k < m
    · have hk1 : (k : Int) < (m : Int) := by omega
      have hk0 : (0 : Int) ≤ (k : Int) := by omega
      obtain ⟨x, s3, hxs⟩ : ∃ x s3, rdM (rdO rdM k s1).2 = (x, s3) := ⟨_, _, rfl⟩
      have hs := rdO_succ (f := rdM) k s1
      rw [hxs] at hs
      have hxs2 := hxs
      have hxs2 : rdM ⟨(rdO rdM k s1).2.B, (rdO rdM k s1).2.err⟩ = (x, s3) := hxs
      have HLO := Lib.hid (rlongO g A4 c4 (rdO rdM k s1).2.B (rdO rdM k s1).2.err wr hR hxs2)
      have hlen := rdO_len (f := rdM) k s1
      have HS := Lib.hid hs
      obtain ⟨N, hN⟩ : ∃ N, (rdO rdM k s1).1 = N := ⟨_, rfl⟩
      rw [hN] at hown hlen HS ⊢
      have HLEN := Lib.hid hlen
      have hN1 : N.length ≤ 5000 := by omega
      clear hlen
      have HOWN := Lib.hid hown
      have HR := Lib.hid hR
      have HC := Lib.hid hC
      have HX := Lib.hid hx
      skip
      have hszk : WB ≤ wr.heap.size := Nat.le_of_lt (Array.getElem?_eq_some_iff.1 hx).1
      clear hs hxs hxs2 hN hown hR hC hx hz
      have HNE : Hid (∀ cs t f, (Obj.cells #[.pointer (some ⟨g, 0, none⟩)] 82 (0, 0)) = .cells cs t f → t ≠ 129) := Lib.hid fun cs t f e => by injection e with _ e2 _; subst e2; decide
      go_wp2_with (first | (go_at_call 42; refine HLO.out.mono ?_; rintro e w5 ⟨rfl, hC5, A5, c5, hR5⟩; have hx5 := HR.out.keepR hC5 HX.out HNE.out; have p0 : w5.cell? ⟨WB, 0, none⟩ = some (.pointer (some ⟨g, 0, none⟩)) := (cell_of_row w5 WB 0 _ _ (0, 0) hx5).trans rfl; have hwl : WB < w5.heap.size := (Array.getElem?_eq_some_iff.1 hx5).1; have HX5 := Lib.hid hx5; have HC5 := Lib.hid hC5; have HR5 := Lib.hid hR5; have HER := Lib.hid (rerr_any g A5 c5 s3.B s3.err w5 hR5); clear hx5 hC5 hR5) | fail)
      refine HER.out.mono ?_
      rintro e w6 ⟨rfl, hb6⟩
      skip
      have hR6 := HR5.out.below hb6
      have hC6 := HC.out.trans (HC5.out.trans (Chg.of_below hb6) (.inl rfl)) (.inl rfl)
      have hx6 := (hb6.block WB (Nat.lt_of_lt_of_le hwl (Nat.le_refl _))).trans HX5.out
      skip
      have hown6 := own_below (own_chg HOWN.out HC5.out (fun e => by have := HOWN.out.lt _ e; have := HGL.out; omega) (fun b _ e => by cases e)) hb6
      clear p0 hwl hb6
      by_cases he : s3.err = 0
      · have he1 : (s3.err != 0) = false := by simp [he]
        have HR6 := Lib.hid hR6
        have HC6 := Lib.hid hC6
        have HX6 := Lib.hid hx6
        have hsz6 : WB + 1 ≤ w6.heap.size := (Array.getElem?_eq_some_iff.1 hx6).1
        have HE := Lib.hid he
        clear hR6 hC6 hx6 he
        go_wp2_with (first
          | (at_builtin; refine wpList_app rfl (.tmp 23) (.tmp 25) rfl EN34 rfl rfl (hown6.alloc _) (m := 1) (news := [.int .i64 x]) rfl (Sl.new_ _ _ _) (fun u hu => by simp only [List.mem_cons, List.not_mem_nil, or_false] at hu; subst hu; rfl) (by unfold maxLen; omega) (by omega) (by simp only [World.size_alloc]; omega) ?_; intro A7 c7 w7 own7 hg7 hb7)
          | fail)
        have hlt7 : g < w6.heap.size := HR6.out.lt
        have hW7 := since_alloc (Below.refl _ w6) (.cells #[.int .i64 x] 2)
        have hR7 : Rdr w7 g A5 c5 s3.B s3.err := (HR6.out.below hW7).belowW hb7 (Nat.lt_succ_of_lt HGL.out)
        have hB67 : Below (WB + 1) w6 w7 := (hW7.mono hsz6).trans hb7
        have hC7 : Chg g none w w7 := HC6.out.thenB hB67 (by have := HWB.out; omega)
        have hx7 := (hB67.block WB (Nat.lt_succ_self _)).trans HX6.out
        have hs := HS.out
        have hlk := HLEN.out
        have hl7 : (rdO rdM (k + 1) s1).1.length = N.length + 1 := by rw [hs.1, List.length_append]; rfl
        go_roundw
        case rel =>
          refine ⟨k + 1, A7, c7, A5, c5, by omega, by go_num, by rw [hl7], ?_, ?_, hC7, hx7, fun _ => by rw [hs.2]; exact HE.out⟩
          · rw [hl7, hs.1, rc_snoc34]
            exact own7
          · rw [hs.2]; exact hR7
        case measure => simp [intOf]; omega
      · have he1 : (s3.err != 0) = true := by simpa using he
        have hst : s2 = s3 := by
          have h1 := HNS.out
          have h2 : (rdO rdM m s1).2 = s2 := by
            have : (m : Int).toNat = m := by omega
            rw [this] at h1
            rw [h1]
          rw [← h2, rdO_end canM.stuck (show k + 1 ≤ m by omega) s1 (by rw [HS.out.2]; exact he)]
          exact HS.out.2
        have HST := Lib.hid hst
        have HHE := Lib.hid he
        clear hown6 hx6 he hst
        go_wp2_with fail
        go_ret
        refine ⟨[], none, 0, rfl, fun h => absurd h (by rw [HST.out]; exact HHE.out), own_nil _ _ _, hC6, by simp, A5, c5, by rw [HST.out]; exact hR6⟩
    · obtain rfl : k = m := by omega
      have h1 := HNS.out
      have htn : (k : Int).toNat = k := by omega
      rw [htn] at h1
      have hlen := rdO_len (f := rdM) k s1
      rw [h1] at hown hR hlen ⊢
      have HLEN := Lib.hid hlen
      clear hlen h1 hx hz
      go_wp2_with fail
      go_ret
      exact ⟨l2, A3, c3, rfl, fun _ => rfl, own_base8 hown (Nat.le_succ _), hC, by rw [HLEN.out]; exact hml, A4, c4, hR⟩
set_option maxHeartbeats 16000000 in
set_option maxRecDepth 100000 in
theorem rlistL (g : Nat) (A : Option Addr) (c : Nat) (B : List Nat) (er mx : Int) (w : World) (hR : Rdr w g A c B er) (hm0 : 0 ≤ mx) (hm : mx ≤ 5000) {l2 : List Lo} {s2 : Rs} (h12 : rdLs mx rdLo ⟨B, er⟩ = (l2, s2)) :
    Calls Try.prog 62 #[.agg #[.pointer (some ⟨g, 0, none⟩)], .int .i64 mx, .func (.func 63) #[.agg #[.pointer (some ⟨g, 0, none⟩)]] #[]] w fun e w' => ∃ (N : List Lo) (A' : Option Addr) (c' : Nat), e = .returned (.slice A' N.length c') ∧ (s2.err = 0 → N = l2) ∧ w'.ownsRow w.heap.size 105 3 (.slice A' (N).length c') (N).length (rc Lo.cells (N)) ∧ Chg g none w w' ∧ N.length ≤ 5000 ∧ ∃ A2 c2, Rdr w' g A2 c2 s2.B s2.err := by
  obtain ⟨n, s1, h1⟩ : ∃ n s1, rdI 0 mx ⟨B, er⟩ = (n, s1) := ⟨_, _, rfl⟩
  have h2 : rdO rdLo n.toNat s1 = (l2, s2) := by
    rw [← h12]; unfold rdLs; rw [h1]
  clear h12
  have hb := since_alloc (Below.refl _ w) (.cells #[.pointer (some ⟨g, 0, none⟩)] 82)
  have hR1 := hR.below hb
  have hbx := heap_alloc_new w (.cells #[.pointer (some ⟨g, 0, none⟩)] 82)
  have HI := Lib.hid (rint4_any g A c B er 0 mx (w.alloc (.cells #[.pointer (some ⟨g, 0, none⟩)] 82)) hR1)
  rw [h1] at HI
  have hn : 0 ≤ n ∧ n ≤ mx := by
    have := rdI_within (lo := 0) (hi := mx) ⟨B, er⟩ (by decide) hm0
    rw [h1] at this
    exact this
  have HNS := Lib.hid h2
  obtain ⟨m, hmn⟩ : ∃ m : Nat, n = (m : Int) := ⟨n.toNat, by omega⟩
  subst hmn
  have hml : m ≤ 5000 := by omega
  have HR1 := Lib.hid hR1
  have HX1 := Lib.hid hbx
  have HB := Lib.hid hb
  skip
  obtain ⟨WB, hWB⟩ : ∃ WB, w.heap.size = WB := ⟨_, rfl⟩
  have HWB := Lib.hid hWB
  rw [hWB] at HX1 ⊢
  have hszb : WB ≤ w.heap.size := by omega
  have HSZ : Hid (WB ≤ (w.alloc (.cells #[.pointer (some ⟨g, 0, none⟩)] 82)).heap.size) := Lib.hid (by rw [World.size_alloc]; omega)
  have HGL : Hid (g < WB) := Lib.hid (by rw [← hWB]; exact hR.lt)
  skip
  clear hR hR1 hb hbx h1 h2 hWB hszb
  go_enter Try.func62, Try.ntmps62
  go_wp2_with fail
  refine HI.out.mono ?_
  rintro e w2 ⟨rfl, hC2, A2, c2, hR2⟩
  have hx2 := HR1.out.keepR hC2 HX1.out (fun cs t f e => by injection e with _ e2 _; subst e2; decide)
  skip
  have hC2w : Chg g none w w2 := (Chg.of_below HB.out).trans hC2 (.inl rfl)
  have hsz2 : WB ≤ w2.heap.size := Nat.le_trans HSZ.out hC2.size
  rw [HWB.out]
  have HR2 := Lib.hid hR2
  have HX2 := Lib.hid hx2
  have HC2 := Lib.hid hC2w
  clear HI hC2 hR2 hx2 hC2w HX1 HR1 HB HSZ
  go_wp2_with fail
  go_loopw [8, 9, 15] (fun ov xv iv wr => ∃ (k : Nat) (A3 : Option Addr) (c3 : Nat) (A4 : Option Addr) (c4 : Nat), k ≤ m ∧ iv = .int .i64 (k : Int) ∧ ov = .slice A3 (rdO rdLo k s1).1.length c3 ∧ wr.ownsRow (WB + 1) 105 3 (.slice A3 ((rdO rdLo k s1).1).length c3) ((rdO rdLo k s1).1).length (rc Lo.cells ((rdO rdLo k s1).1)) ∧ Rdr wr g A4 c4 (rdO rdLo k s1).2.B (rdO rdLo k s1).2.err ∧ Chg g none w wr ∧ wr.heap[WB]? = some (.cells #[.pointer (some ⟨g, 0, none⟩)] 82 (0, 0)) ∧ (0 < k → (rdO rdLo k s1).2.err = 0)) (fun _ _ iv _ => m - (intOf iv).toNat)
  case atStart => exact ⟨0, none, 0, A2, c2, by omega, rfl, rfl, own_nil _ _ _, HR2.out, HC2.out, HX2.out, fun h => absurd h (by omega)⟩
  case round =>
    clear A2 c2 HR2 HX2 HC2
    obtain ⟨k, A3, c3, A4, c4, hk, rfl, rfl, hown, hR, hC, hx, hz⟩ := hrel
    by_cases hkm : k < m
    · have hk1 : (k : Int) < (m : Int) := by omega
      have hk0 : (0 : Int) ≤ (k : Int) := by omega
      obtain ⟨x, s3, hxs⟩ : ∃ x s3, rdLo (rdO rdLo k s1).2 = (x, s3) := ⟨_, _, rfl⟩
      have hs := rdO_succ (f := rdLo) k s1
      rw [hxs] at hs
      obtain ⟨xa, xb, xq⟩ := x
      have hxs2 : rdLo ⟨(rdO rdLo k s1).2.B, (rdO rdLo k s1).2.err⟩ = (⟨xa, xb, xq⟩, s3) := hxs
      have HLO := Lib.hid (rlotO g A4 c4 (rdO rdLo k s1).2.B (rdO rdLo k s1).2.err wr hR hxs2)
      have hlen := rdO_len (f := rdLo) k s1
      have HS := Lib.hid hs
      obtain ⟨N, hN⟩ : ∃ N, (rdO rdLo k s1).1 = N := ⟨_, rfl⟩
      rw [hN] at hown hlen HS ⊢
      have HLEN := Lib.hid hlen
      have hN1 : N.length ≤ 5000 := by omega
      clear hlen
      have HOWN := Lib.hid hown
      have HR := Lib.hid hR
      have HC := Lib.hid hC
      have HX := Lib.hid hx
      skip
      have hszk : WB ≤ wr.heap.size := Nat.le_of_lt (Array.getElem?_eq_some_iff.1 hx).1
      clear hs hxs hxs2 hN hown hR hC hx hz
      have HNE : Hid (∀ cs t f, (Obj.cells #[.pointer (some ⟨g, 0, none⟩)] 82 (0, 0)) = .cells cs t f → t ≠ 129) := Lib.hid fun cs t f e => by injection e with _ e2 _; subst e2; decide
      go_wp2_with (first | (go_at_call 63; refine HLO.out.mono ?_; rintro e w5 ⟨rfl, hC5, A5, c5, hR5⟩; have hx5 := HR.out.keepR hC5 HX.out HNE.out; have p0 : w5.cell? ⟨WB, 0, none⟩ = some (.pointer (some ⟨g, 0, none⟩)) := (cell_of_row w5 WB 0 _ _ (0, 0) hx5).trans rfl; have hwl : WB < w5.heap.size := (Array.getElem?_eq_some_iff.1 hx5).1; have hal5 := since_alloc (Below.refl _ w5) (.cells #[.int .i64 xa, .int .i64 xb, .int .i64 xq] 105); have HX5 := Lib.hid hx5; have HC5 := Lib.hid hC5; have HAL5 := Lib.hid hal5; have HNB := Lib.hid (heap_alloc_new w5 (.cells #[.int .i64 xa, .int .i64 xb, .int .i64 xq] 105)); have HR5 := Lib.hid hR5; have HER := Lib.hid (rerr_any g A5 c5 s3.B s3.err (w5.alloc (.cells #[.int .i64 xa, .int .i64 xb, .int .i64 xq] 105)) (hR5.below hal5)); clear hal5; clear hx5 hC5 hR5) | fail)
      refine HER.out.mono ?_
      rintro e w6 ⟨rfl, hb6⟩
      have hnb := (hb6.block w5.heap.size (by rw [World.size_alloc]; omega)).trans HNB.out
      have hb6 := HAL5.out.trans (hb6.mono (by rw [World.size_alloc]; omega))
      have q0 : w6.cell? ⟨w5.heap.size, 0, none⟩ = some (.int .i64 xa) := (cell_of_row w6 w5.heap.size 0 _ _ (0, 0) hnb).trans rfl
      have q1 : w6.cell? ⟨w5.heap.size, 1, none⟩ = some (.int .i64 xb) := (cell_of_row w6 w5.heap.size 1 _ _ (0, 0) hnb).trans rfl
      have q2 : w6.cell? ⟨w5.heap.size, 2, none⟩ = some (.int .i64 xq) := (cell_of_row w6 w5.heap.size 2 _ _ (0, 0) hnb).trans rfl
      have hnl := (Array.getElem?_eq_some_iff.1 hnb).1
      clear hnb
      have hR6 := HR5.out.below hb6
      have hC6 := HC.out.trans (HC5.out.trans (Chg.of_below hb6) (.inl rfl)) (.inl rfl)
      have hx6 := (hb6.block WB (Nat.lt_of_lt_of_le hwl (Nat.le_refl _))).trans HX5.out
      skip
      have hown6 := own_below (own_chg HOWN.out HC5.out (fun e => by have := HOWN.out.lt _ e; have := HGL.out; omega) (fun b _ e => by cases e)) hb6
      clear p0 hwl hb6
      by_cases he : s3.err = 0
      · have he1 : (s3.err != 0) = false := by simp [he]
        have HR6 := Lib.hid hR6
        have HC6 := Lib.hid hC6
        have HX6 := Lib.hid hx6
        have hsz6 : WB + 1 ≤ w6.heap.size := (Array.getElem?_eq_some_iff.1 hx6).1
        have HE := Lib.hid he
        clear hR6 hC6 hx6 he
        go_wp2_with (first
          | (at_builtin; refine wpList_app rfl (.tmp 23) (.tmp 25) rfl ELo34 rfl rfl (hown6.alloc _) (m := 1) (news := [.int .i64 xa, .int .i64 xb, .int .i64 xq]) rfl (Sl.new_ _ _ _) (fun u hu => by simp only [List.mem_cons, List.not_mem_nil, or_false] at hu; rcases hu with rfl | rfl | rfl <;> rfl) (by unfold maxLen; omega) (by omega) (by simp only [World.size_alloc]; omega) ?_; intro A7 c7 w7 own7 hg7 hb7)
          | fail)
        have hlt7 : g < w6.heap.size := HR6.out.lt
        have hW7 := since_alloc (Below.refl _ w6) (.cells #[.int .i64 xa, .int .i64 xb, .int .i64 xq] 105)
        have hR7 : Rdr w7 g A5 c5 s3.B s3.err := (HR6.out.below hW7).belowW hb7 (Nat.lt_succ_of_lt HGL.out)
        have hB67 : Below (WB + 1) w6 w7 := (hW7.mono hsz6).trans hb7
        have hC7 : Chg g none w w7 := HC6.out.thenB hB67 (by have := HWB.out; omega)
        have hx7 := (hB67.block WB (Nat.lt_succ_self _)).trans HX6.out
        have hs := HS.out
        have hlk := HLEN.out
        have hl7 : (rdO rdLo (k + 1) s1).1.length = N.length + 1 := by rw [hs.1, List.length_append]; rfl
        go_roundw
        case rel =>
          refine ⟨k + 1, A7, c7, A5, c5, by omega, by go_num, by rw [hl7], ?_, ?_, hC7, hx7, fun _ => by rw [hs.2]; exact HE.out⟩
          · rw [hl7, hs.1, rc_snoc34]
            exact own7
          · rw [hs.2]; exact hR7
        case measure => simp [intOf]; omega
      · have he1 : (s3.err != 0) = true := by simpa using he
        have hst : s2 = s3 := by
          have h1 := HNS.out
          have h2 : (rdO rdLo m s1).2 = s2 := by
            have : (m : Int).toNat = m := by omega
            rw [this] at h1
            rw [h1]
          rw [← h2, rdO_end canLo.stuck (show k + 1 ≤ m by omega) s1 (by rw [HS.out.2]; exact he)]
          exact HS.out.2
        have HST := Lib.hid hst
        have HHE := Lib.hid he
        clear hown6 hx6 he hst
        go_wp2_with fail
        go_ret
        refine ⟨[], none, 0, rfl, fun h => absurd h (by rw [HST.out]; exact HHE.out), own_nil _ _ _, hC6, by simp, A5, c5, by rw [HST.out]; exact hR6⟩
    · obtain rfl : k = m := by omega
      have h1 := HNS.out
      have htn : (k : Int).toNat = k := by omega
      rw [htn] at h1
      have hlen := rdO_len (f := rdLo) k s1
      rw [h1] at hown hR hlen ⊢
      have HLEN := Lib.hid hlen
      clear hlen h1 hx hz
      go_wp2_with fail
      go_ret
      exact ⟨l2, A3, c3, rfl, fun _ => rfl, own_base8 hown (Nat.le_succ _), hC, by rw [HLEN.out]; exact hml, A4, c4, hR⟩
set_option maxHeartbeats 16000000 in
set_option maxRecDepth 100000 in
theorem rlistD (rb : Nat) (g : Nat) (A : Option Addr) (c : Nat) (B : List Nat) (er mx : Int) (w : World) (hR : Rdr w g A c B er) (hxb : w.heap[rb]? = some (.cells #[.pointer (some ⟨g, 0, none⟩)] 82 (0, 0))) (hm0 : 0 ≤ mx) (hm : mx ≤ 5000) {l2 : List Db} {s2 : Rs} (h12 : rdLs mx rdDb ⟨B, er⟩ = (l2, s2)) :
    Calls Try.prog 57 #[.agg #[.pointer (some ⟨g, 0, none⟩)], .int .i64 mx, .func (.func 58) #[] #[.pointer (some ⟨rb, 0, none⟩)]] w fun e w' => ∃ (N : List Db) (A' : Option Addr) (c' : Nat), e = .returned (.slice A' N.length c') ∧ (s2.err = 0 → N = l2) ∧ w'.ownsRow w.heap.size 94 5 (.slice A' (N).length c') (N).length (rc Db.cells (N)) ∧ Chg g none w w' ∧ N.length ≤ 5000 ∧ ∃ A2 c2, Rdr w' g A2 c2 s2.B s2.err := by
  obtain ⟨n, s1, h1⟩ : ∃ n s1, rdI 0 mx ⟨B, er⟩ = (n, s1) := ⟨_, _, rfl⟩
  have h2 : rdO rdDb n.toNat s1 = (l2, s2) := by
    rw [← h12]; unfold rdLs; rw [h1]
  clear h12
  have hb := since_alloc (Below.refl _ w) (.cells #[.pointer (some ⟨g, 0, none⟩)] 82)
  have hR1 := hR.below hb
  have hbx := heap_alloc_new w (.cells #[.pointer (some ⟨g, 0, none⟩)] 82)
  have HI := Lib.hid (rint4_any g A c B er 0 mx (w.alloc (.cells #[.pointer (some ⟨g, 0, none⟩)] 82)) hR1)
  rw [h1] at HI
  have hn : 0 ≤ n ∧ n ≤ mx := by
    have := rdI_within (lo := 0) (hi := mx) ⟨B, er⟩ (by decide) hm0
    rw [h1] at this
    exact this
  have HNS := Lib.hid h2
  obtain ⟨m, hmn⟩ : ∃ m : Nat, n = (m : Int) := ⟨n.toNat, by omega⟩
  subst hmn
  have hml : m ≤ 5000 := by omega
  have HR1 := Lib.hid hR1
  have HX1 := Lib.hid hbx
  have HB := Lib.hid hb
  have HXB := Lib.hid ((hb.block rb (Array.getElem?_eq_some_iff.1 hxb).1).trans hxb)
  obtain ⟨WB, hWB⟩ : ∃ WB, w.heap.size = WB := ⟨_, rfl⟩
  have HWB := Lib.hid hWB
  rw [hWB] at HX1 ⊢
  have hszb : WB ≤ w.heap.size := by omega
  have HSZ : Hid (WB ≤ (w.alloc (.cells #[.pointer (some ⟨g, 0, none⟩)] 82)).heap.size) := Lib.hid (by rw [World.size_alloc]; omega)
  have HGL : Hid (g < WB) := Lib.hid (by rw [← hWB]; exact hR.lt)
  have HBL : Hid (rb < WB) := Lib.hid (by rw [← hWB]; exact (Array.getElem?_eq_some_iff.1 hxb).1)
  clear hR hR1 hb hbx h1 h2 hWB hszb hxb
  go_enter Try.func57, Try.ntmps57
  go_wp2_with fail
  refine HI.out.mono ?_
  rintro e w2 ⟨rfl, hC2, A2, c2, hR2⟩
  have hx2 := HR1.out.keepR hC2 HX1.out (fun cs t f e => by injection e with _ e2 _; subst e2; decide)
  have HXB2 := Lib.hid (HR1.out.keepR hC2 HXB.out (fun cs t f e => by injection e with _ e2 _; subst e2; decide))
  have hC2w : Chg g none w w2 := (Chg.of_below HB.out).trans hC2 (.inl rfl)
  have hsz2 : WB ≤ w2.heap.size := Nat.le_trans HSZ.out hC2.size
  rw [HWB.out]
  have HR2 := Lib.hid hR2
  have HX2 := Lib.hid hx2
  have HC2 := Lib.hid hC2w
  clear HI hC2 hR2 hx2 hC2w HX1 HR1 HB HSZ HXB
  go_wp2_with fail
  go_loopw [8, 9, 15] (fun ov xv iv wr => ∃ (k : Nat) (A3 : Option Addr) (c3 : Nat) (A4 : Option Addr) (c4 : Nat), k ≤ m ∧ iv = .int .i64 (k : Int) ∧ ov = .slice A3 (rdO rdDb k s1).1.length c3 ∧ wr.ownsRow (WB + 1) 94 5 (.slice A3 ((rdO rdDb k s1).1).length c3) ((rdO rdDb k s1).1).length (rc Db.cells ((rdO rdDb k s1).1)) ∧ Rdr wr g A4 c4 (rdO rdDb k s1).2.B (rdO rdDb k s1).2.err ∧ Chg g none w wr ∧ wr.heap[WB]? = some (.cells #[.pointer (some ⟨g, 0, none⟩)] 82 (0, 0)) ∧ (0 < k → (rdO rdDb k s1).2.err = 0) ∧ wr.heap[rb]? = some (.cells #[.pointer (some ⟨g, 0, none⟩)] 82 (0, 0))) (fun _ _ iv _ => m - (intOf iv).toNat)
  case atStart => exact ⟨0, none, 0, A2, c2, by omega, rfl, rfl, own_nil _ _ _, HR2.out, HC2.out, HX2.out, fun h => absurd h (by omega), HXB2.out⟩
  case round =>
    clear A2 c2 HR2 HX2 HC2 HXB2
    obtain ⟨k, A3, c3, A4, c4, hk, rfl, rfl, hown, hR, hC, hx, hz, hxb⟩ := hrel
    by_cases hkm : k < m
    · have hk1 : (k : Int) < (m : Int) := by omega
      have hk0 : (0 : Int) ≤ (k : Int) := by omega
      obtain ⟨x, s3, hxs⟩ : ∃ x s3, rdDb (rdO rdDb k s1).2 = (x, s3) := ⟨_, _, rfl⟩
      have hs := rdO_succ (f := rdDb) k s1
      rw [hxs] at hs
      obtain ⟨xa, xb, xc, xd, xq⟩ := x
      have hxs2 : rdDb ⟨(rdO rdDb k s1).2.B, (rdO rdDb k s1).2.err⟩ = (⟨xa, xb, xc, xd, xq⟩, s3) := hxs
      have HLO := Lib.hid (rdebO rb g A4 c4 (rdO rdDb k s1).2.B (rdO rdDb k s1).2.err wr hR hxb hxs2)
      have hlen := rdO_len (f := rdDb) k s1
      have HS := Lib.hid hs
      obtain ⟨N, hN⟩ : ∃ N, (rdO rdDb k s1).1 = N := ⟨_, rfl⟩
      rw [hN] at hown hlen HS ⊢
      have HLEN := Lib.hid hlen
      have hN1 : N.length ≤ 5000 := by omega
      clear hlen
      have HOWN := Lib.hid hown
      have HR := Lib.hid hR
      have HC := Lib.hid hC
      have HX := Lib.hid hx
      have HXB := Lib.hid hxb
      have hszk : WB ≤ wr.heap.size := Nat.le_of_lt (Array.getElem?_eq_some_iff.1 hx).1
      clear hs hxs hxs2 hN hown hR hC hx hz hxb
      have HNE : Hid (∀ cs t f, (Obj.cells #[.pointer (some ⟨g, 0, none⟩)] 82 (0, 0)) = .cells cs t f → t ≠ 129) := Lib.hid fun cs t f e => by injection e with _ e2 _; subst e2; decide
      go_wp2_with (first | (go_at_call 58; refine HLO.out.mono ?_; rintro e w5 ⟨rfl, hC5, A5, c5, hR5⟩; have hx5 := HR.out.keepR hC5 HX.out HNE.out; have hxb5 := Lib.hid (HR.out.keepR hC5 HXB.out HNE.out); have p0 : w5.cell? ⟨WB, 0, none⟩ = some (.pointer (some ⟨g, 0, none⟩)) := (cell_of_row w5 WB 0 _ _ (0, 0) hx5).trans rfl; have hwl : WB < w5.heap.size := (Array.getElem?_eq_some_iff.1 hx5).1; have hal5 := since_alloc (Below.refl _ w5) (.cells #[.int .i64 xa, .int .i64 xb, .int .i64 xc, .int .i64 xd, .int .i64 xq] 94); have HX5 := Lib.hid hx5; have HC5 := Lib.hid hC5; have HAL5 := Lib.hid hal5; have HNB := Lib.hid (heap_alloc_new w5 (.cells #[.int .i64 xa, .int .i64 xb, .int .i64 xc, .int .i64 xd, .int .i64 xq] 94)); have HR5 := Lib.hid hR5; have HER := Lib.hid (rerr_any g A5 c5 s3.B s3.err (w5.alloc (.cells #[.int .i64 xa, .int .i64 xb, .int .i64 xc, .int .i64 xd, .int .i64 xq] 94)) (hR5.below hal5)); clear hal5; clear hx5 hC5 hR5) | fail)
      refine HER.out.mono ?_
      rintro e w6 ⟨rfl, hb6⟩
      have hnb := (hb6.block w5.heap.size (by rw [World.size_alloc]; omega)).trans HNB.out
      have hb6 := HAL5.out.trans (hb6.mono (by rw [World.size_alloc]; omega))
      have q0 : w6.cell? ⟨w5.heap.size, 0, none⟩ = some (.int .i64 xa) := (cell_of_row w6 w5.heap.size 0 _ _ (0, 0) hnb).trans rfl
      have q1 : w6.cell? ⟨w5.heap.size, 1, none⟩ = some (.int .i64 xb) := (cell_of_row w6 w5.heap.size 1 _ _ (0, 0) hnb).trans rfl
      have q2 : w6.cell? ⟨w5.heap.size, 2, none⟩ = some (.int .i64 xc) := (cell_of_row w6 w5.heap.size 2 _ _ (0, 0) hnb).trans rfl
      have q3 : w6.cell? ⟨w5.heap.size, 3, none⟩ = some (.int .i64 xd) := (cell_of_row w6 w5.heap.size 3 _ _ (0, 0) hnb).trans rfl
      have q4 : w6.cell? ⟨w5.heap.size, 4, none⟩ = some (.int .i64 xq) := (cell_of_row w6 w5.heap.size 4 _ _ (0, 0) hnb).trans rfl
      have hnl := (Array.getElem?_eq_some_iff.1 hnb).1
      clear hnb
      have hR6 := HR5.out.below hb6
      have hC6 := HC.out.trans (HC5.out.trans (Chg.of_below hb6) (.inl rfl)) (.inl rfl)
      have hx6 := (hb6.block WB (Nat.lt_of_lt_of_le hwl (Nat.le_refl _))).trans HX5.out
      have HXB6 := Lib.hid ((hb6.block rb (Array.getElem?_eq_some_iff.1 hxb5.out).1).trans hxb5.out)
      have hown6 := own_below (own_chg HOWN.out HC5.out (fun e => by have := HOWN.out.lt _ e; have := HGL.out; omega) (fun b _ e => by cases e)) hb6
      clear p0 hwl hb6
      by_cases he : s3.err = 0
      · have he1 : (s3.err != 0) = false := by simp [he]
        have HR6 := Lib.hid hR6
        have HC6 := Lib.hid hC6
        have HX6 := Lib.hid hx6
        have hsz6 : WB + 1 ≤ w6.heap.size := (Array.getElem?_eq_some_iff.1 hx6).1
        have HE := Lib.hid he
        clear hR6 hC6 hx6 he
        go_wp2_with (first
          | (at_builtin; refine wpList_app rfl (.tmp 23) (.tmp 25) rfl EDb34 rfl rfl (hown6.alloc _) (m := 1) (news := [.int .i64 xa, .int .i64 xb, .int .i64 xc, .int .i64 xd, .int .i64 xq]) rfl (Sl.new_ _ _ _) (fun u hu => by simp only [List.mem_cons, List.not_mem_nil, or_false] at hu; rcases hu with rfl | rfl | rfl | rfl | rfl <;> rfl) (by unfold maxLen; omega) (by omega) (by simp only [World.size_alloc]; omega) ?_; intro A7 c7 w7 own7 hg7 hb7)
          | fail)
        have hlt7 : g < w6.heap.size := HR6.out.lt
        have hW7 := since_alloc (Below.refl _ w6) (.cells #[.int .i64 xa, .int .i64 xb, .int .i64 xc, .int .i64 xd, .int .i64 xq] 94)
        have hR7 : Rdr w7 g A5 c5 s3.B s3.err := (HR6.out.below hW7).belowW hb7 (Nat.lt_succ_of_lt HGL.out)
        have hB67 : Below (WB + 1) w6 w7 := (hW7.mono hsz6).trans hb7
        have hC7 : Chg g none w w7 := HC6.out.thenB hB67 (by have := HWB.out; omega)
        have hx7 := (hB67.block WB (Nat.lt_succ_self _)).trans HX6.out
        have hs := HS.out
        have hlk := HLEN.out
        have hl7 : (rdO rdDb (k + 1) s1).1.length = N.length + 1 := by rw [hs.1, List.length_append]; rfl
        go_roundw
        case rel =>
          refine ⟨k + 1, A7, c7, A5, c5, by omega, by go_num, by rw [hl7], ?_, ?_, hC7, hx7, fun _ => by rw [hs.2]; exact HE.out, (hB67.block rb (Nat.lt_succ_of_lt HBL.out)).trans HXB6.out⟩
          · rw [hl7, hs.1, rc_snoc34]
            exact own7
          · rw [hs.2]; exact hR7
        case measure => simp [intOf]; omega
      · have he1 : (s3.err != 0) = true := by simpa using he
        have hst : s2 = s3 := by
          have h1 := HNS.out
          have h2 : (rdO rdDb m s1).2 = s2 := by
            have : (m : Int).toNat = m := by omega
            rw [this] at h1
            rw [h1]
          rw [← h2, rdO_end canDb.stuck (show k + 1 ≤ m by omega) s1 (by rw [HS.out.2]; exact he)]
          exact HS.out.2
        have HST := Lib.hid hst
        have HHE := Lib.hid he
        clear hown6 hx6 he hst
        go_wp2_with fail
        go_ret
        refine ⟨[], none, 0, rfl, fun h => absurd h (by rw [HST.out]; exact HHE.out), own_nil _ _ _, hC6, by simp, A5, c5, by rw [HST.out]; exact hR6⟩
    · obtain rfl : k = m := by omega
      have h1 := HNS.out
      have htn : (k : Int).toNat = k := by omega
      rw [htn] at h1
      have hlen := rdO_len (f := rdDb) k s1
      rw [h1] at hown hR hlen ⊢
      have HLEN := Lib.hid hlen
      clear hlen h1 hx hz
      go_wp2_with fail
      go_ret
      exact ⟨l2, A3, c3, rfl, fun _ => rfl, own_base8 hown (Nat.le_succ _), hC, by rw [HLEN.out]; exact hml, A4, c4, hR⟩
end Go.Proofs.Ytpmnjojednbnpaa
end
