/-
  Layer 15, fourteenth part: AcctTables (laid by gen_acct14.py).
-/
import Derived.Test.YtpnaihnmmnjacaaAcct13
namespace Go.Proofs.Ytpnaihnmmnjacaa
open Go.ChangeShapes Go.WideShapes Go.ChangeAt Go.RowKit
set_option linter.unusedVariables false
set_option linter.unusedSimpArgs false

set_option maxHeartbeats 1000000 in
set_option maxRecDepth 100000 in
theorem rlessU_any (u v : Un) (w : World) :
    Calls Try.prog 40 #[u.val, v.val] w fun e w' => e = .returned (.bool (decide (ltU u v))) ∧ Below w.heap.size w w' := by
  have hB := since_alloc (since_alloc (Below.refl _ w) (.cells u.cells.toArray 26)) (.cells v.cells.toArray 26)
  obtain ⟨ua, uc⟩ := u
  obtain ⟨va, vc⟩ := v
  unfold Un.val Un.cells at *
  simp only at hB ⊢
  by_cases h1 : ua < va
  · have HE : Hid (decide (ltU ⟨ua, uc⟩ ⟨va, vc⟩) = true) := Lib.hid (by simp [ltU, h1])
    go_enter Try.func40, Try.ntmps40
    go_wp2_with fail
    go_ret
    exact ⟨retB HE.out.symm, hB⟩
  by_cases h2 : ua = va
  · subst h2
    have HE : Hid (decide (ltU ⟨ua, uc⟩ ⟨ua, vc⟩) = decide (uc < vc)) := Lib.hid (by simp [ltU])
    go_enter Try.func40, Try.ntmps40
    go_wp2_with fail
    go_ret
    exact ⟨retB HE.out.symm, hB⟩
  · have HE : Hid (decide (ltU ⟨ua, uc⟩ ⟨va, vc⟩) = false) := Lib.hid (decide_eq_false (by unfold ltU; simp only; omega))
    have h2b : (ua == va) = false := by simpa using h2
    clear h2
    go_enter Try.func40, Try.ntmps40
    go_wp2_with fail
    go_ret
    exact ⟨retB HE.out.symm, hB⟩


def FewRes2 (l : List Ac) (w w' : World) (e : Ending) : Prop :=
  ∃ (R : List Ac) (A' : Option Addr) (c' : Nat), e = .returned (.slice A' R.length c') ∧ w'.ownsRow w.heap.size 24 4 (.slice A' R.length c') R.length (rc Ac.cells R) ∧ Deep w' R ∧ R.length ≤ 20 ∧ ∀ g ∈ R, ∃ h ∈ l, g.cl = h.cl ∧ g.clL ≤ h.clL
set_option maxHeartbeats 4000000 in
set_option maxRecDepth 100000 in
theorem few15_any2 (A : Option Addr) (cap : Nat) (l : List Ac) (w : World) (hs : Sl w A (rc Ac.cells l)) (hd : ∀ g ∈ l, ∃ L : List Nt, g.clL = L.length ∧ L.length ≤ g.clC ∧ g.clC ≤ maxLen ∧ Sl w g.cl (rc Nt.cells L)) :
    Calls Try.prog 27 #[.slice A l.length cap] w fun e w' => FewRes2 l w w' e ∧ Below w.heap.size w w' := by
  go_enter Try.func27, Try.ntmps27
  go_wp2_with fail
  go_loopw [3, 4] (fun out i wr => ∃ (k : Nat) (R : List Ac) (A' : Option Addr) (c' : Nat), k ≤ l.length ∧ k ≤ 20 ∧ i = .int .i64 k ∧ R.length ≤ k ∧ out = .slice A' R.length c' ∧ wr.ownsRow w.heap.size 24 4 (.slice A' R.length c') R.length (rc Ac.cells R) ∧ Deep w R ∧ (∀ g ∈ R, ∃ h ∈ l, g.cl = h.cl ∧ g.clL ≤ h.clL) ∧ Below w.heap.size w wr) (fun _ i _ => l.length - (intOf i).toNat)
  case atStart => exact ⟨0, [], none, 0, by omega, by omega, rfl, by simp, rfl, own_nil _ _ _, (fun g h => by cases h), (fun g h => by cases h), Below.refl _ _⟩
  case round =>
    obtain ⟨k, R, A', c', hk, hk20, rfl, hRk, rfl, hown, hdp, hme, hB⟩ := hrel
    by_cases hgo : k < l.length ∧ k < 20
    · obtain ⟨hlt, hlt20⟩ := hgo
      obtain ⟨b, o, rfl, hbw, hg⟩ := (hs.below hB).ac hlt
      obtain ⟨L, e1, e2, e3, e4⟩ := hd l[k] (List.getElem_mem hlt)
      have hlk : (k : Int) < (l.length : Int) := by omega
      have hlk20 : (k : Int) < 20 := by omega
      have hsz := hB.size
      have hmem := List.getElem_mem hlt
      generalize hvv : l[k] = v at *
      clear hvv
      obtain ⟨vid, vm, vk, vc, vcL, vcC⟩ := v
      simp only at e1 e2 e3 e4
      subst e1
      obtain ⟨g0, g1, g2, g3⟩ := hg
      simp only at g0 g1 g2 g3
      have HSH := Lib.hid (short15_any vid vm vk vc vcC L wr e2 e3 (e4.below hB))
      have ht20 : (L.take 20).length ≤ 20 := by simp; omega
      have htL : (L.take 20).length ≤ L.length := by simp; omega
      have HME : Hid (∀ g ∈ R ++ [⟨vid, vm, vk, vc, (L.take 20).length, vcC⟩], ∃ h ∈ l, g.cl = h.cl ∧ g.clL ≤ h.clL) := Lib.hid fun g hg => by
        rcases List.mem_append.1 hg with hg | hg
        · exact hme g hg
        · simp only [List.mem_singleton] at hg
          subst hg
          exact ⟨_, hmem, rfl, htL⟩
      have hT : Sl w vc (rc Nt.cells (L.take 20)) := by
        have h := e4.take (20 * 1)
        rw [rc_take Nt.len] at h
        exact h
      clear hd hs hme hmem htL
      generalize L.take 20 = M at *
      have h1000 : R.length ≤ 20 := by omega
      go_wp2_with fail
      refine HSH.out.mono ?_
      rintro e w1 ⟨rfl, hb1⟩
      have hB2 := since_step hB hb1
      have hown2 := own_below hown hb1
      have hsz2 := hB2.size
      go_wp2_with (first
        | (at_builtin; refine wpList_app rfl (.tmp 15) (.tmp 21) rfl EAc rfl rfl (hown2.alloc _) (m := 1) (news := (⟨vid, vm, vk, vc, M.length, vcC⟩ : Ac).cells) rfl (Sl.new_ _ _ _) (Ac.one _) (by unfold maxLen; omega) (by omega) (by simp only [World.size_alloc]; omega) ?_; intro A2 c2 w3 hown3 hg3 hb3)
        | fail)
      go_roundw
      case rel =>
        have hb13 : Below w.heap.size w1 w3 := ((Below.refl w.heap.size w1).alloc hsz2 _).trans hb3
        refine ⟨k + 1, R ++ [⟨vid, vm, vk, vc, M.length, vcC⟩], A2, c2, by omega, by omega, by go_num, by simp; omega, by simp, ?_, ?_, HME.out, hB2.trans hb13⟩
        · rw [rc_append]; simpa [rc] using hown3
        · intro g hg
          rcases List.mem_append.1 hg with hg | hg
          · exact hdp g hg
          · simp only [List.mem_singleton] at hg
            subst hg
            exact ⟨M, rfl, ht20, hT⟩
      case measure => simp [intOf]; omega
    · have hend : ¬ ((k : Int) < (l.length : Int)) ∨ ((k : Int) < (l.length : Int) ∧ ¬ ((k : Int) < 20)) := by omega
      clear hgo
      rcases hend with h1 | ⟨h1, h2⟩
      all_goals
        go_wp2_with fail
        go_ret
        exact ⟨⟨R, A', c', rfl, hown, hdp.below hB, by omega, hme⟩, hB⟩

def ATabRel2 (l : List Ac) (n : Nat) (w : World) (out i : Value) (wr : World) : Prop :=
  ∃ (k : Nat) (R : List Ac) (A' : Option Addr) (c' : Nat), k ≤ n ∧ k ≤ 20 ∧ i = .int .i64 k ∧ out = .slice A' R.length c' ∧ wr.ownsRow w.heap.size 24 4 (.slice A' R.length c') R.length (rc Ac.cells R) ∧ SortedQ R ∧ GoodA w R ∧ (∀ g ∈ R, g ∈ l) ∧ R.length ≤ k ∧ Below w.heap.size w wr
def ATabRes2 (l : List Ac) (w w' : World) (e : Ending) : Prop :=
  ∃ (R : List Ac) (A' : Option Addr) (c' : Nat), e = .returned (.slice A' R.length c') ∧ w'.ownsRow w.heap.size 24 4 (.slice A' R.length c') R.length (rc Ac.cells R) ∧ SortedQ R ∧ GoodA w R ∧ (∀ g ∈ R, g ∈ l) ∧ R.length ≤ 20
set_option maxHeartbeats 4000000 in
set_option maxRecDepth 100000 in
theorem rtableq_any2 (A : Option Addr) (cap : Nat) (l : List Ac) (w : World) (hs : Sl w A (rc Ac.cells l)) (hd : Deep w l) :
    Calls Try.prog 26 #[.slice A l.length cap] w fun e w' => ATabRes2 l w w' e ∧ Below w.heap.size w w' := by
  go_enter Try.func26, Try.ntmps26
  go_wp2_with fail
  go_loopw [3, 4] (fun out i wr => ATabRel2 l l.length w out i wr) (fun _ i _ => l.length - (intOf i).toNat)
  case atStart => exact ⟨0, [], none, 0, by omega, by omega, rfl, rfl, own_nil _ _ _, List.Pairwise.nil, (fun g h => by cases h), (fun g h => by cases h), by simp, Below.refl _ _⟩
  case round =>
    obtain ⟨k, R, A', c', hk, hk20, rfl, rfl, hown, hsd, hgd, hme, hRk, hB⟩ := hrel
    by_cases hgo : k < l.length ∧ k < 20
    · obtain ⟨hlt, hlt20⟩ := hgo
      obtain ⟨b, o, rfl, hbw, hg⟩ := (hs.below hB).ac hlt
      obtain ⟨L, e1, e2, e3⟩ := hd l[k] (List.getElem_mem hlt)
      have hlk : (k : Int) < (l.length : Int) := by omega
      have hlk20 : (k : Int) < 20 := by omega
      have hmem := List.getElem_mem hlt
      generalize hvv : l[k] = v at *
      clear hvv
      obtain ⟨vid, vm, vk, vc, vcL, vcC⟩ := v
      simp only at e1 e2 e3
      subst e1
      have hQ : ∀ W, Below wr.heap.size wr W → Calls Try.prog 16 #[(⟨vid, vm, vk, vc, L.length, vcC⟩ : Ac).val] W fun e w' => e = .returned (.bool (isE vid vm vk L)) ∧ Below W.heap.size W w' := fun W hW => ris_any vid vm vk vc vcC L W (by omega) ((e3.below hB).below hW)
      have HPT := rputq_any w.heap.size A' c' R ⟨vid, vm, vk, vc, L.length, vcC⟩ (isE vid vm vk L) wr hQ (by omega) hown hsd
      have HSD := Lib.hid hsd
      have HGD := Lib.hid hgd
      have hcase : (putQR (isE vid vm vk L) R ⟨vid, vm, vk, vc, L.length, vcC⟩ = (0, putR ahQ R ⟨vid, vm, vk, vc, L.length, vcC⟩) ∧ okC vid vm vk L) ∨ ∃ n, n ≠ 0 ∧ putQR (isE vid vm vk L) R ⟨vid, vm, vk, vc, L.length, vcC⟩ = (n, []) := by
        unfold putQR
        split
        · exact .inr ⟨2, by decide, rfl⟩
        · rename_i hq
          split
          · exact .inr ⟨12, by decide, rfl⟩
          · refine .inl ⟨rfl, ?_⟩
            by_cases hok : okC vid vm vk L
            · exact hok
            · exact absurd (is_bad hok) (by simpa using hq)
      have HG : Hid (okC vid vm vk L → GoodA w (putR ahQ R ⟨vid, vm, vk, vc, L.length, vcC⟩)) := Lib.hid fun hok g hg => by
        rcases mem_putR _ _ _ hg with rfl | hg
        · exact ⟨L, rfl, e2, e3, hok⟩
        · exact hgd g hg
      have HME : Hid (∀ g ∈ putR ahQ R ⟨vid, vm, vk, vc, L.length, vcC⟩, g ∈ l) := Lib.hid fun g hg => by
        rcases mem_putR _ _ _ hg with rfl | hg
        · exact hmem
        · exact hme g hg
      have HM0 := Lib.hid hme
      have HP : Hid (SortedQ (putR ahQ R ⟨vid, vm, vk, vc, L.length, vcC⟩)) := Lib.hid (pairwise_putR ordQ _ R hsd)
      have hpl := length_putR (ah := ahQ) ⟨vid, vm, vk, vc, L.length, vcC⟩ R
      clear hs hbw hsd hgd hd hQ e3 hme hmem
      obtain ⟨g0, g1, g2, g3⟩ := hg
      simp only at g0 g1 g2 g3
      rcases hcase with ⟨hR, hok⟩ | ⟨n, hn, hR⟩
      · rw [hR] at HPT
        have HG := Lib.hid (HG.out hok)
        clear hR hok
        unfold Ac.val at HPT
        simp only at HPT
        generalize putR ahQ R ⟨vid, vm, vk, vc, L.length, vcC⟩ = M at *
        have HPT := Lib.hid HPT
        go_wp2_with fail
        refine HPT.out.mono ?_
        rintro e w1 ⟨⟨A1, c1, rfl, hown1⟩, hb1⟩
        have hB2 := since_step hB hb1
        have hown2 := own_base hown1 hB.size
        clear hown hown1 hb1 g0 g1 g2 g3
        go_wp2_with fail
        go_roundw
        case rel => exact ⟨k + 1, M, A1, c1, by omega, by omega, by go_num, rfl, hown2, HP.out, HG.out, HME.out, by omega, hB2⟩
        case measure => simp [intOf]; omega
      · rw [hR] at HPT
        clear hR HG HP HME
        unfold Ac.val at HPT
        simp only at HPT
        have HPT := Lib.hid HPT
        have hnb : (n == 0) = false := by simpa using hn
        go_wp2_with fail
        refine HPT.out.mono ?_
        rintro e w1 ⟨⟨A1, c1, rfl, hown1⟩, hb1⟩
        have hB2 := since_step hB hb1
        have hown2 := own_below hown hb1
        clear hown hown1 hb1 g0 g1 g2 g3
        go_wp2_with fail
        go_roundw
        case rel => exact ⟨k + 1, R, A', c', by omega, by omega, by go_num, rfl, hown2, HSD.out, HGD.out, HM0.out, by omega, hB2⟩
        case measure => simp [intOf]; omega
    · have hend : ¬ ((k : Int) < (l.length : Int)) ∨ ((k : Int) < (l.length : Int) ∧ ¬ ((k : Int) < 20)) := by omega
      have HF := Lib.hid (show SortedQ R ∧ GoodA w R ∧ (∀ g ∈ R, g ∈ l) ∧ R.length ≤ 20 from ⟨hsd, hgd, hme, by omega⟩)
      clear hgo hsd hgd hme
      rcases hend with h1 | ⟨h1, h2⟩
      all_goals
        go_wp2_with fail
        go_ret
        exact ⟨⟨R, A', c', rfl, hown, HF.out.1, HF.out.2.1, HF.out.2.2.1, HF.out.2.2.2⟩, hB⟩

theorem GoodA.tab {w : World} : ∀ {R : List Ac}, GoodA w R → ∃ cs : List Cn, Tab w R cs ∧ ∀ c ∈ cs, c.L.length ≤ 20
  | [], _ => ⟨[], Tab.nil w, fun c h => by cases h⟩
  | g :: R, h => by
    obtain ⟨cs, h1, h2⟩ := GoodA.tab (R := R) fun x hx => h x (List.mem_cons_of_mem _ hx)
    obtain ⟨L, e1, e2, e3, _⟩ := h g List.mem_cons_self
    refine ⟨⟨g.id, g.mem, g.kind, L⟩ :: cs, Tab.cons.2 ⟨⟨rfl, rfl, rfl, e1, e3⟩, h1⟩, fun c hc => ?_⟩
    rcases List.mem_cons.1 hc with rfl | hc
    · exact e2
    · exact h2 c hc
theorem putCR_ok {cs : List Cn} {c : Cn} {n : Nat} (h : ∀ x ∈ cs, x.L.length ≤ n) (hc : c.L.length ≤ n) : (putCR cs c).2.length ≤ cs.length + 1 ∧ ∀ x ∈ (putCR cs c).2, x.L.length ≤ n := by
  unfold putCR
  split
  · exact ⟨by simp, fun x hx => by cases hx⟩
  · split
    · exact ⟨by simp, fun x hx => by cases hx⟩
    · refine ⟨length_putR _ _, fun x hx => ?_⟩
      rcases mem_putR _ _ _ hx with rfl | hx
      · exact hc
      · exact h x hx
theorem setCR_ok {cs : List Cn} {c : Cn} {n : Nat} (h : ∀ x ∈ cs, x.L.length ≤ n) (hc : c.L.length ≤ n) : (setCR cs c).2.length ≤ cs.length + 1 ∧ ∀ x ∈ (setCR cs c).2, x.L.length ≤ n := by
  unfold setCR
  split
  · exact ⟨by simp, fun x hx => by cases hx⟩
  · split
    · refine ⟨by simp, fun x hx => ?_⟩
      rw [List.mem_map] at hx
      obtain ⟨y, hy, rfl⟩ := hx
      split
      · exact hc
      · exact h y hy
    · exact ⟨by simp, fun x hx => by cases hx⟩

set_option maxHeartbeats 16000000 in
set_option maxRecDepth 100000 in
theorem walk_AcctTables (a0 : Option Addr) (n0 c0 : Nat) (a1 : Array Value) (a2 : Int) (a3 : Array Value) (a4 : Array Value) (w : World) (w0 : Rd w (.sl (.cat (.int .i64) (.cat (.int .i64) (.cat (.int .i64) (.cat (.sl (.int .i64)) .nil))))) [.slice a0 n0 c0]) (w1 : Rd w (.cat (.int .i64) (.cat (.int .i64) (.cat (.int .i64) (.cat (.sl (.int .i64)) .nil)))) a1.toList) (w2 : (Lit.int .i64 a2).wf = true) (w3 : Rd w (.cat (.int .i64) (.cat (.int .i64) .nil)) a3.toList) (w4 : Rd w (.cat (.int .i64) (.cat (.int .i64) .nil)) a4.toList) :
    Calls Try.prog 4 #[.slice a0 n0 c0, .agg a1, .int .i64 a2, .agg a3, .agg a4] w fun e w' => e = .returned (.bool true) ∧ Below w.heap.size w w' := by
  obtain ⟨l, rfl, _, _, hsl, hdl⟩ := rd_accts w0
  obtain ⟨id, mem, kind, A, cap, L0, rfl, hc, hcm, hsa⟩ := rd_acct w1
  obtain ⟨ua, uc, rfl⟩ := rd_two w3
  obtain ⟨va, vc, rfl⟩ := rd_two w4
  clear w0 w1 w2 w3 w4
  obtain ⟨c, rfl, rfl, rfl, hcL⟩ : ∃ c : Cn, c.id = id ∧ c.mem = mem ∧ c.kind = kind ∧ c.L = L0.take 20 := ⟨⟨id, mem, kind, L0.take 20⟩, rfl, rfl, rfl, rfl⟩
  have hB0 := since_alloc (since_alloc (since_alloc (Below.refl _ w) (.cells #[.int .i64 c.id, .int .i64 c.mem, .int .i64 c.kind, .slice A L0.length cap] 24)) (.cells #[.int .i64 ua, .int .i64 uc] 26)) (.cells #[.int .i64 va, .int .i64 vc] 26)
  have hV0 : Aq (((w.alloc (.cells #[.int .i64 c.id, .int .i64 c.mem, .int .i64 c.kind, .slice A L0.length cap] 24)).alloc (.cells #[.int .i64 ua, .int .i64 uc] 26)).alloc (.cells #[.int .i64 va, .int .i64 vc] 26)) w.heap.size ⟨c.id, c.mem, c.kind, A, L0.length, cap⟩ := ((Aq.new w ⟨c.id, c.mem, c.kind, A, L0.length, cap⟩).below ((Below.refl _ _).alloc (Nat.le_refl _) (.cells #[.int .i64 ua, .int .i64 uc] 26))).below ((Below.refl _ _).alloc (Nat.le_refl _) (.cells #[.int .i64 va, .int .i64 vc] 26))
  have hf00 : ∀ i, ((w.alloc (.cells #[.int .i64 c.id, .int .i64 c.mem, .int .i64 c.kind, .slice A L0.length cap] 24)).alloc (.cells #[.int .i64 ua, .int .i64 uc] 26)).frozen? ⟨w.heap.size, i, none⟩ = false := fun i => by simp
  have hf0 : ∀ i, (((w.alloc (.cells #[.int .i64 c.id, .int .i64 c.mem, .int .i64 c.kind, .slice A L0.length cap] 24)).alloc (.cells #[.int .i64 ua, .int .i64 uc] 26)).alloc (.cells #[.int .i64 va, .int .i64 vc] 26)).frozen? ⟨w.heap.size, i, none⟩ = false := fun i => (((Below.refl ((w.alloc (.cells #[.int .i64 c.id, .int .i64 c.mem, .int .i64 c.kind, .slice A L0.length cap] 24)).alloc (.cells #[.int .i64 ua, .int .i64 uc] 26)).heap.size ((w.alloc (.cells #[.int .i64 c.id, .int .i64 c.mem, .int .i64 c.kind, .slice A L0.length cap] 24)).alloc (.cells #[.int .i64 ua, .int .i64 uc] 26))).alloc (Nat.le_refl _) (.cells #[.int .i64 va, .int .i64 vc] 26)).frozen (p := ⟨w.heap.size, i, none⟩) (by simp; omega)).trans (hf00 i)
  clear hf00
  have hU0 : Un.Bx (((w.alloc (.cells #[.int .i64 c.id, .int .i64 c.mem, .int .i64 c.kind, .slice A L0.length cap] 24)).alloc (.cells #[.int .i64 ua, .int .i64 uc] 26)).alloc (.cells #[.int .i64 va, .int .i64 vc] 26)) (w.heap.size + 1) ⟨ua, uc⟩ := by
    have h := (Un.Bx.new (w.alloc (.cells #[.int .i64 c.id, .int .i64 c.mem, .int .i64 c.kind, .slice A L0.length cap] 24)) ⟨ua, uc⟩).below ((Below.refl _ _).alloc (Nat.le_refl _) (.cells #[.int .i64 va, .int .i64 vc] 26))
    rw [World.size_alloc] at h; exact h
  have hY0 : Un.Bx (((w.alloc (.cells #[.int .i64 c.id, .int .i64 c.mem, .int .i64 c.kind, .slice A L0.length cap] 24)).alloc (.cells #[.int .i64 ua, .int .i64 uc] 26)).alloc (.cells #[.int .i64 va, .int .i64 vc] 26)) (w.heap.size + 2) ⟨va, vc⟩ := by
    have h := Un.Bx.new ((w.alloc (.cells #[.int .i64 c.id, .int .i64 c.mem, .int .i64 c.kind, .slice A L0.length cap] 24)).alloc (.cells #[.int .i64 ua, .int .i64 uc] 26)) ⟨va, vc⟩
    rw [World.size_alloc, World.size_alloc] at h; exact h
  have HSH := Lib.hid (fun V h => short15_any c.id c.mem c.kind A cap L0 V hc hcm h)
  rw [← hcL] at HSH
  have hl20 : c.L.length ≤ 20 := by rw [hcL]; simp; omega
  have HSL : Hid (∀ V, Sl V A (rc Nt.cells L0) → Sl V A (rc Nt.cells c.L)) := Lib.hid fun V h => by
    have h := h.take (20 * 1)
    rw [rc_take Nt.len, ← hcL] at h
    exact h
  clear hcL
  go_enter Try.func4, Try.ntmps4
  go_upto_region 1 with fail
  generalize hWW : (((w.alloc (.cells #[.int .i64 c.id, .int .i64 c.mem, .int .i64 c.kind, .slice A L0.length cap] 24)).alloc (.cells #[.int .i64 ua, .int .i64 uc] 26)).alloc (.cells #[.int .i64 va, .int .i64 vc] 26)) = W0 at *
  clear hWW
  have hsl0 := hsl.below hB0
  have hsa0 := hsa.below hB0
  have hdl0 : ∀ g ∈ l, ∃ L : List Nt, g.clL = L.length ∧ L.length ≤ g.clC ∧ g.clC ≤ maxLen ∧ Sl W0 g.cl (rc Nt.cells L) := fun g hg => by
    obtain ⟨L, e1, e2, e3, e4⟩ := hdl g hg
    exact ⟨L, e1, e2, e3, e4.below hB0⟩
  obtain ⟨q0, q1, q2, q3⟩ := hV0.got
  simp only at q0 q1 q2 q3
  have hlw := hV0.lt
  go_wp2_with fail
  refine (HSH.out _ hsa0).mono ?_
  rintro e x1 ⟨rfl, hb1⟩
  have hdl1 : ∀ g ∈ l, ∃ L : List Nt, g.clL = L.length ∧ L.length ≤ g.clC ∧ g.clC ≤ maxLen ∧ Sl x1 g.cl (rc Nt.cells L) := fun g hg => by
    obtain ⟨L, e1, e2, e3, e4⟩ := hdl0 g hg
    exact ⟨L, e1, e2, e3, e4.below hb1⟩
  go_wp2_with fail
  refine (few15_any2 a0 c0 l _ (hsl0.below hb1) hdl1).mono ?_
  rintro e x2 ⟨⟨R0, A1, c1, rfl, hown0, hd0, hR0, hm0⟩, hb2⟩
  go_wp2_with fail
  refine (rtableq_any2 A1 c1 R0 _ (Sl.of_own hown0) hd0).mono ?_
  rintro e x3 ⟨⟨R, AT, cT, rfl, ownT, hsd, hgd, hm1, hR⟩, hb3⟩
  have hb12 := since_step hb1 hb2
  have hb13 := since_step hb12 hb3
  have hdK : ∀ i, (h : i < R.length) → R[i].clL ≠ 0 → ∀ b o, R[i].cl = some ⟨b, o, none⟩ → b < w.heap.size := fun i h hz b o e => by
    obtain ⟨y, hy, e1, e2⟩ := hm0 _ (hm1 _ (List.getElem_mem h))
    obtain ⟨L, d1, _, _, d4⟩ := hdl y hy
    have hne : rc Nt.cells L ≠ [] := fun h0 => by
      have h9 := rc_length Nt.len L
      rw [h0] at h9
      have h8 : L.length = 0 := by simp only [List.length_nil, Nat.mul_one] at h9; omega
      omega
    obtain ⟨b', o', e3, hc'⟩ := d4 hne
    rw [e1, e3] at e
    injection e with e
    injection e with e4 e5
    subst e4
    obtain ⟨u, hu⟩ : ∃ u, (rc Nt.cells L)[0]? = some u := by
      cases hq : rc Nt.cells L with
      | nil => exact absurd hq hne
      | cons u r => exact ⟨u, rfl⟩
    exact World.block_lt_of_cell? _ _ (hc' 0 u hu)
  have hgd := hgd.below hb3
  have hB1 := since_step hB0 hb13
  have hV1 := hV0.below hb13
  have hU1 := hU0.below hb13
  have hY1 := hY0.below hb13
  have hf1 : ∀ i, x3.frozen? ⟨w.heap.size, i, none⟩ = false := fun i => by rw [hb13.frozen (p := ⟨w.heap.size, i, none⟩) hlw]; exact hf0 i
  have hx2s : w.heap.size < x2.heap.size := Nat.lt_of_lt_of_le hlw hb12.size
  clear q0 q1 q2 q3 hf0 hV0 hU0 hY0 HSH hdl0 hdl1 hsl hsl0 hsa0 hown0 hd0 hb1 hb2 hb3 hb12 hb13
  obtain ⟨cs, hT, hcs20⟩ := hgd.tab
  clear hgd hm0 hm1
  obtain ⟨q0, q1, q2, q3⟩ := hV1.got
  simp only at q0 q1 q2 q3
  have hlw1 := hV1.lt
  have hV := hV1.set4 ⟨c.id, c.mem, c.kind, A, c.L.length, cap⟩
  have hU := (((hU1.setFar (p := ⟨w.heap.size, 0, none⟩) (by show w.heap.size ≠ _; omega) (.int .i64 c.id)).setFar (p := ⟨w.heap.size, 1, none⟩) (by show w.heap.size ≠ _; omega) (.int .i64 c.mem)).setFar (p := ⟨w.heap.size, 2, none⟩) (by show w.heap.size ≠ _; omega) (.int .i64 c.kind)).setFar (p := ⟨w.heap.size, 3, none⟩) (by show w.heap.size ≠ _; omega) (.slice A c.L.length cap)
  have hY := (((hY1.setFar (p := ⟨w.heap.size, 0, none⟩) (by show w.heap.size ≠ _; omega) (.int .i64 c.id)).setFar (p := ⟨w.heap.size, 1, none⟩) (by show w.heap.size ≠ _; omega) (.int .i64 c.mem)).setFar (p := ⟨w.heap.size, 2, none⟩) (by show w.heap.size ≠ _; omega) (.int .i64 c.kind)).setFar (p := ⟨w.heap.size, 3, none⟩) (by show w.heap.size ≠ _; omega) (.slice A c.L.length cap)
  have hB := Below.setCell (Below.setCell (Below.setCell (Below.setCell hB1 (p := ⟨w.heap.size, 0, none⟩) (Nat.le_refl _) (.int .i64 c.id)) (p := ⟨w.heap.size, 1, none⟩) (Nat.le_refl _) (.int .i64 c.mem)) (p := ⟨w.heap.size, 2, none⟩) (Nat.le_refl _) (.int .i64 c.kind)) (p := ⟨w.heap.size, 3, none⟩) (Nat.le_refl _) (.slice A c.L.length cap)
  have hS := HSL.out _ (hsa.below hB)
  have hO := own_setFar (own_setFar (own_setFar (own_setFar ownT (p := ⟨w.heap.size, 0, none⟩) hx2s (.int .i64 c.id)) (p := ⟨w.heap.size, 1, none⟩) hx2s (.int .i64 c.mem)) (p := ⟨w.heap.size, 2, none⟩) hx2s (.int .i64 c.kind)) (p := ⟨w.heap.size, 3, none⟩) hx2s (.slice A c.L.length cap)
  have hK : Tab ((((x3.setCell ⟨w.heap.size, 0, none⟩ (.int .i64 c.id)).setCell ⟨w.heap.size, 1, none⟩ (.int .i64 c.mem)).setCell ⟨w.heap.size, 2, none⟩ (.int .i64 c.kind)).setCell ⟨w.heap.size, 3, none⟩ (.slice A c.L.length cap)) R cs := by
    refine ⟨hT.1, fun i h1 h2 => ?_⟩
    have hi := hT.2 i h1 h2
    refine ⟨hi.id, hi.mem, hi.kind, hi.len, ?_⟩
    by_cases hz : rc Nt.cells cs[i].L = []
    · rw [hz]; exact Sl.nil
    have hz2 : R[i].clL ≠ 0 := fun h0 => by
      rw [hi.len] at h0
      have : cs[i].L = [] := List.eq_nil_of_length_eq_zero h0
      rw [this] at hz; exact hz rfl
    have hbk : ∀ b o, R[i].cl = some ⟨b, o, none⟩ → b ≠ w.heap.size := fun b o e => by have := hdK i h1 hz2 b o e; omega
    refine (((hi.sl.far (p := ⟨w.heap.size, 0, none⟩) hbk _).far (p := ⟨w.heap.size, 1, none⟩) hbk _).far (p := ⟨w.heap.size, 2, none⟩) hbk _).far (p := ⟨w.heap.size, 3, none⟩) hbk _
  simp only at hV
  go_upto_region 2 with fail
  generalize hWW : (((x3.setCell ⟨w.heap.size, 0, none⟩ (.int .i64 c.id)).setCell ⟨w.heap.size, 1, none⟩ (.int .i64 c.mem)).setCell ⟨w.heap.size, 2, none⟩ (.int .i64 c.kind)).setCell ⟨w.heap.size, 3, none⟩ (.slice A c.L.length cap) = W at *
  clear hWW q0 q1 q2 q3 hf1 hV1 hU1 hY1 hB1 hsa hB0 HSL ownT hT hdl hdK
  have hcl : ∀ x ∈ cs, x.L.length ≤ 900000 := fun x hx => Nat.le_trans (hcs20 x hx) (by omega)
  have hc2 : c.L.length ≤ 900000 := by omega
  have hRl : R.length ≤ 900000 := by omega
  have hRc := hK.1
  obtain ⟨p1, p2⟩ := putCR_ok hcl hc2
  obtain ⟨s1, s2⟩ := setCR_ok hcl hc2
  have hcc : cs.length ≤ 20 := by omega
  have HP1 := Lib.hid (fun V h1 h2 h3 => aput_any AT cT R cs c A cap V hRl hcl hc2 h1 h2 hsd h3)
  have HP2 := Lib.hid (fun V B h1 h2 h3 => rputT_any AT cT R cs c A cap V B hRl hc2 h1 h2 hsd h3)
  have HS1 := Lib.hid (fun V h1 h2 h3 => aset_any AT cT R cs c A cap V hRl hcl hc2 h1 h2 hsd h3)
  have HS2 := Lib.hid (fun V h1 h2 h3 => rsetT_any AT cT R cs c A cap V hRl hc2 h1 h2 h3)
  have HF1 := Lib.hid (fun V h1 h2 => afind_any AT cT R cs a2 V hRl hcl h1 h2)
  have HF2 := Lib.hid (fun V h1 h2 => rfindT_any AT cT R cs a2 V hRl h1 h2)
  have HO1 := Lib.hid (fun V h1 h2 => aof_any AT cT R cs a2 V hRl hcl h1 h2)
  have HO2 := Lib.hid (fun V h1 h2 => rof_any AT cT R cs a2 V hRl hcl h1 h2)
  have HW1 := Lib.hid (fun V h1 h2 => aowner_any AT cT R cs ⟨ua, uc⟩ V hRl hcl h1 h2 hsd)
  have HW2 := Lib.hid (fun V h1 h2 => rowner_any AT cT R cs ⟨ua, uc⟩ V hRl hcl h1 h2)
  have HL1 := Lib.hid (fun V => lessU_any ⟨ua, uc⟩ ⟨va, vc⟩ V)
  have HL2 := Lib.hid (fun V => rlessU_any ⟨ua, uc⟩ ⟨va, vc⟩ V)
  have hFL : ∀ y, findC cs a2 = some y → y.L.length ≤ 900000 := fun y hy => hcl y (List.mem_of_find?_eq_some hy)
  have hof : (ofC15 cs a2).length ≤ 900000 := Nat.le_trans (List.length_filter_le _ _) (by omega)
  have hofl : ∀ x ∈ ofC15 cs a2, x.L.length ≤ 900000 := fun x hx => hcl x (List.mem_filter.1 hx).1
  unfold Un.val at HW1 HW2 HL1 HL2
  simp only at HW1 HW2 HL1 HL2
  generalize putCR cs c = P at *
  generalize setCR cs c = Q at *
  generalize findC cs a2 = f at *
  generalize ofC15 cs a2 = O at *
  generalize ownC cs ⟨ua, uc⟩ = ow at *
  generalize decide (ltU ⟨ua, uc⟩ ⟨va, vc⟩) = lt at *
  obtain ⟨P1, P2⟩ := P
  obtain ⟨Q1, Q2⟩ := Q
  simp only at p1 p2 s1 s2
  have t1 : (P1 != P1) = false := by simp
  have t2 : (Q1 != Q1) = false := by simp
  have t3 : (ow == ow) = true := by simp
  have t4 : (lt == lt) = true := by simp
  have hSM1 := fun A1 A2 c1 c2 l m V => sameT_self A1 A2 c1 c2 l m P2 V (by omega) p2
  have hSM2 := fun A1 A2 c1 c2 l m V => sameT_self A1 A2 c1 c2 l m Q2 V (by omega) s2
  have hSM3 := fun A1 A2 c1 c2 l m V => sameT_self A1 A2 c1 c2 l m O V hof hofl
  have HM1 := Lib.hid hSM1
  have HM2 := Lib.hid hSM2
  have HM3 := Lib.hid hSM3
  clear hSM1 hSM2 hSM3 p1 p2 s1 s2 hof hofl hRc hcs20
  have hR0 := Sl.of_own hO
  obtain ⟨hV_0, hV_1, hV_2, hV_3⟩ := hV.got
  have hV_l := hV.lt
  go_wp2_with fail
  refine (HP1.out _ hR0 hK hS).mono ?_
  rintro e z1 ⟨⟨l1, X1, d1, rfl, hsN, htN⟩, hb⟩
  have hB := since_step hB hb
  have hV := hV.below hb
  have hU := hU.below hb
  have hY := hY.below hb
  have hS := hS.below hb
  have hO := own_below hO hb
  have hK := hK.below hb
  have hR0 := hR0.below hb
  clear hb
  clear hV_0 hV_1 hV_2 hV_3 hV_l
  have hr1 := hsN
  have ht1 := htN
  clear hsN htN
  obtain ⟨hV_0, hV_1, hV_2, hV_3⟩ := hV.got
  have hV_l := hV.lt
  go_wp2_with fail
  refine (HP2.out _ _ hO hK hS).mono ?_
  rintro e z2 ⟨⟨l2, X2, d2, rfl, hsN, htN⟩, hb⟩
  have hB := since_step hB hb
  have hV := hV.below hb
  have hU := hU.below hb
  have hY := hY.below hb
  have hS := hS.below hb
  have hO := own_below hO hb
  have hK := hK.below hb
  have hR0 := hR0.below hb
  have hr1 := hr1.below hb
  have ht1 := ht1.below hb
  clear hb
  clear hV_0 hV_1 hV_2 hV_3 hV_l
  have hr2 := hsN
  have ht2 := htN
  clear hsN htN
  clear hO
  obtain ⟨hV_0, hV_1, hV_2, hV_3⟩ := hV.got
  have hV_l := hV.lt
  go_wp2_with fail
  refine (HS1.out _ hR0 hK hS).mono ?_
  rintro e z3 ⟨⟨l3, X3, d3, rfl, hsN, htN⟩, hb⟩
  have hB := since_step hB hb
  have hV := hV.below hb
  have hU := hU.below hb
  have hY := hY.below hb
  have hS := hS.below hb
  have hK := hK.below hb
  have hR0 := hR0.below hb
  have hr1 := hr1.below hb
  have ht1 := ht1.below hb
  have hr2 := hr2.below hb
  have ht2 := ht2.below hb
  clear hb
  clear hV_0 hV_1 hV_2 hV_3 hV_l
  have hr3 := hsN
  have ht3 := htN
  clear hsN htN
  obtain ⟨hV_0, hV_1, hV_2, hV_3⟩ := hV.got
  have hV_l := hV.lt
  go_wp2_with fail
  refine (HS2.out _ hR0 hK hS).mono ?_
  rintro e z4 ⟨⟨l4, X4, d4, rfl, hsN, htN⟩, hb⟩
  have hB := since_step hB hb
  have hV := hV.below hb
  have hU := hU.below hb
  have hY := hY.below hb
  have hS := hS.below hb
  have hK := hK.below hb
  have hR0 := hR0.below hb
  have hr1 := hr1.below hb
  have ht1 := ht1.below hb
  have hr2 := hr2.below hb
  have ht2 := ht2.below hb
  have hr3 := hr3.below hb
  have ht3 := ht3.below hb
  clear hb
  clear hV_0 hV_1 hV_2 hV_3 hV_l
  have hr4 := hsN
  have ht4 := htN
  clear hsN htN
  clear hV hS
  cases f with
  | none =>
    have HSO := Lib.hid (fun V => sameone_self 0 0 0 none none 0 0 [] V (by decide) Sl.nil Sl.nil)
    simp only [List.length_nil] at HSO
    unfold FRes at HF1 HF2
    simp only at HF1 HF2
    clear hFL
    go_wp2_with fail
    refine (HF1.out _ hR0 hK).mono ?_
    rintro e z5 ⟨rfl, hb⟩
    have hB := since_step hB hb
    have hU := hU.below hb
    have hY := hY.below hb
    have hK := hK.below hb
    have hR0 := hR0.below hb
    have hr1 := hr1.below hb
    have ht1 := ht1.below hb
    have hr2 := hr2.below hb
    have ht2 := ht2.below hb
    have hr3 := hr3.below hb
    have ht3 := ht3.below hb
    have hr4 := hr4.below hb
    have ht4 := ht4.below hb
    clear hb
    go_wp2_with fail
    have hP := Aq.new z5 ⟨0, 0, 0, none, 0, 0⟩
    have hA := (Below.refl z5.heap.size z5).alloc (Nat.le_refl _) (.cells #[.int .i64 0, .int .i64 0, .int .i64 0, .slice none 0 0] 24)
    have hU := hU.below hA
    have hY := hY.below hA
    have hK := hK.below hA
    have hR0 := hR0.below hA
    have hr1 := hr1.below hA
    have ht1 := ht1.below hA
    have hr2 := hr2.below hA
    have ht2 := ht2.below hA
    have hr3 := hr3.below hA
    have ht3 := ht3.below hA
    have hr4 := hr4.below hA
    have ht4 := ht4.below hA
    have hB := since_step hB hA
    clear hA
    refine (HF2.out _ hR0 hK).mono ?_
    rintro e z6 ⟨rfl, hb⟩
    have hB := since_step hB hb
    have hU := hU.below hb
    have hY := hY.below hb
    have hK := hK.below hb
    have hR0 := hR0.below hb
    have hr1 := hr1.below hb
    have ht1 := ht1.below hb
    have hr2 := hr2.below hb
    have ht2 := ht2.below hb
    have hr3 := hr3.below hb
    have ht3 := ht3.below hb
    have hr4 := hr4.below hb
    have ht4 := ht4.below hb
    have hP := hP.below hb
    clear hb
    obtain ⟨hP_0, hP_1, hP_2, hP_3⟩ := hP.got
    have hP_l := hP.lt
    go_wp2_with fail
    have hQ := Aq.new z6 ⟨0, 0, 0, none, 0, 0⟩
    have hA := (Below.refl z6.heap.size z6).alloc (Nat.le_refl _) (.cells #[.int .i64 0, .int .i64 0, .int .i64 0, .slice none 0 0] 24)
    have hU := hU.below hA
    have hY := hY.below hA
    have hK := hK.below hA
    have hR0 := hR0.below hA
    have hr1 := hr1.below hA
    have ht1 := ht1.below hA
    have hr2 := hr2.below hA
    have ht2 := ht2.below hA
    have hr3 := hr3.below hA
    have ht3 := ht3.below hA
    have hr4 := hr4.below hA
    have ht4 := ht4.below hA
    have hP := hP.below hA
    have hB := since_step hB hA
    clear hA
    refine (HM1.out X1 X2 d1 d2 l1 l2 _ hr1 hr2 ht1 ht2).mono ?_
    rintro e z7 ⟨rfl, hb⟩
    have hB := since_step hB hb
    have hU := hU.below hb
    have hY := hY.below hb
    have hK := hK.below hb
    have hR0 := hR0.below hb
    have hr1 := hr1.below hb
    have ht1 := ht1.below hb
    have hr2 := hr2.below hb
    have ht2 := ht2.below hb
    have hr3 := hr3.below hb
    have ht3 := ht3.below hb
    have hr4 := hr4.below hb
    have ht4 := ht4.below hb
    have hP := hP.below hb
    have hQ := hQ.below hb
    clear hb
    clear hP_0 hP_1 hP_2 hP_3 hP_l
    obtain ⟨hP_0, hP_1, hP_2, hP_3⟩ := hP.got
    have hP_l := hP.lt
    obtain ⟨hQ_0, hQ_1, hQ_2, hQ_3⟩ := hQ.got
    have hQ_l := hQ.lt
    go_wp2_with fail
    refine (HM2.out X3 X4 d3 d4 l3 l4 _ hr3 hr4 ht3 ht4).mono ?_
    rintro e z8 ⟨rfl, hb⟩
    have hB := since_step hB hb
    have hU := hU.below hb
    have hY := hY.below hb
    have hK := hK.below hb
    have hR0 := hR0.below hb
    have hr1 := hr1.below hb
    have ht1 := ht1.below hb
    have hr2 := hr2.below hb
    have ht2 := ht2.below hb
    have hr3 := hr3.below hb
    have ht3 := ht3.below hb
    have hr4 := hr4.below hb
    have ht4 := ht4.below hb
    have hP := hP.below hb
    have hQ := hQ.below hb
    clear hb
    clear hP_0 hP_1 hP_2 hP_3 hP_l hQ_0 hQ_1 hQ_2 hQ_3 hQ_l
    obtain ⟨hP_0, hP_1, hP_2, hP_3⟩ := hP.got
    have hP_l := hP.lt
    obtain ⟨hQ_0, hQ_1, hQ_2, hQ_3⟩ := hQ.got
    have hQ_l := hQ.lt
    go_wp2_with fail
    refine (HSO.out _).mono ?_
    rintro e z9 ⟨rfl, hb⟩
    have hB := since_step hB hb
    have hU := hU.below hb
    have hY := hY.below hb
    have hK := hK.below hb
    have hR0 := hR0.below hb
    have hr1 := hr1.below hb
    have ht1 := ht1.below hb
    have hr2 := hr2.below hb
    have ht2 := ht2.below hb
    have hr3 := hr3.below hb
    have ht3 := ht3.below hb
    have hr4 := hr4.below hb
    have ht4 := ht4.below hb
    have hP := hP.below hb
    have hQ := hQ.below hb
    clear hb
    clear hP_0 hP_1 hP_2 hP_3 hP_l hQ_0 hQ_1 hQ_2 hQ_3 hQ_l
    go_upto_region 10 with fail
    clear hP hQ hr1 hr2 hr3 hr4 ht1 ht2 ht3 ht4
    generalize z9 = Y at *
    have HU : Hid (∀ V, Below Y.heap.size Y V → Un.Bx V (w.heap.size + 1) ⟨ua, uc⟩ ∧ Un.Bx V (w.heap.size + 2) ⟨va, vc⟩) := Lib.hid fun V hV' => ⟨hU.below hV', hY.below hV'⟩
    have HR : Hid (∀ V, Below Y.heap.size Y V → Sl V AT (rc Ac.cells R) ∧ Tab V R cs) := Lib.hid fun V hV' => ⟨hR0.below hV', hK.below hV'⟩
    clear hU hY hR0 hK
    go_wp2_with fail
    refine wp_region_held_drew (S := (fun V => Below Y.heap.size Y V)) (by kernel_rfl) (by exact (Below.refl _ _).drew) (fun hHeld => ?_)
    refine wpAnyH_take (i := 0) (oi := { dst := some 95, op := _, type := _, pos := _, after := _, guard := _ }) (v := ?_) rfl (by kernel_rfl) (by kernel_rfl) (by kernel_rfl) (fun _ _ _ h => h) (Or.inl ⟨by rfl, ?_⟩) hHeld ?_
    rotate_left
    · (intro w hSw; obtain ⟨hu9, hv9⟩ := HU.out _ hSw; obtain ⟨u0, u1⟩ := hu9.got; obtain ⟨v0, v1⟩ := hv9.got; simp only at u0 u1 v0 v1; go_simp <;> with_reducible rfl)
    try simp only [Act.put, List.setIfInBounds_toArray, List.set_cons_zero, List.set_cons_succ]
    refine wpAnyH_take (i := 1) (oi := { dst := some 96, op := _, type := _, pos := _, after := _, guard := _ }) (v := ?_) rfl (by kernel_rfl) (by kernel_rfl) (by kernel_rfl) (fun _ _ _ h => h) (Or.inl ⟨by rfl, ?_⟩) hHeld ?_
    rotate_left
    · (intro w hSw; obtain ⟨hu9, hv9⟩ := HU.out _ hSw; obtain ⟨u0, u1⟩ := hu9.got; obtain ⟨v0, v1⟩ := hv9.got; simp only at u0 u1 v0 v1; go_simp <;> with_reducible rfl)
    try simp only [Act.put, List.setIfInBounds_toArray, List.set_cons_zero, List.set_cons_succ]
    refine wpAnyH_take (i := 3) (oi := { dst := some 98, op := _, type := _, pos := _, after := _, guard := _ }) (v := ?_) rfl (by kernel_rfl) (by kernel_rfl) (by kernel_rfl) (fun _ _ _ h => h) (Or.inl ⟨by rfl, ?_⟩) hHeld ?_
    rotate_left
    · (intro w hSw; obtain ⟨hu9, hv9⟩ := HU.out _ hSw; obtain ⟨u0, u1⟩ := hu9.got; obtain ⟨v0, v1⟩ := hv9.got; simp only at u0 u1 v0 v1; go_simp <;> with_reducible rfl)
    try simp only [Act.put, List.setIfInBounds_toArray, List.set_cons_zero, List.set_cons_succ]
    refine wpAnyH_take (i := 4) (oi := { dst := some 99, op := _, type := _, pos := _, after := _, guard := _ }) (v := ?_) rfl (by kernel_rfl) (by kernel_rfl) (by kernel_rfl) (fun _ _ _ h => h) (Or.inl ⟨by rfl, ?_⟩) hHeld ?_
    rotate_left
    · (intro w hSw; obtain ⟨hu9, hv9⟩ := HU.out _ hSw; obtain ⟨u0, u1⟩ := hu9.got; obtain ⟨v0, v1⟩ := hv9.got; simp only at u0 u1 v0 v1; go_simp <;> with_reducible rfl)
    try simp only [Act.put, List.setIfInBounds_toArray, List.set_cons_zero, List.set_cons_succ]
    refine wpAnyH_ready (rs := [2]) (by kernel_rfl) (by simp) ?_
    refine AllReadyH.cons (o := { dst := some 97, op := _, type := _, pos := _, after := _, guard := _ }) rfl (fun K hK => ?_) AllReadyH.nil
    go_simp
    refine (HO1.out _ (HR.out _ hHeld).1 (HR.out _ hHeld).2).mono ?_
    rintro e y2 ⟨⟨l5, Y1, e1, rfl, hs5, ht5⟩, hk2⟩
    have hKeep := since_step hHeld hk2
    go_wp2_with fail
    refine hK.out _ _ (by (try dsimp only); exact hKeep) (fun hHeld => ?_)
    clear hK K hKeep
    try simp only [Act.put, List.setIfInBounds_toArray, List.set_cons_zero, List.set_cons_succ]
    refine wpAnyH_ready (rs := [5]) (by kernel_rfl) (by simp) ?_
    refine AllReadyH.cons (o := { dst := some 100, op := _, type := _, pos := _, after := _, guard := _ }) rfl (fun K hK => ?_) AllReadyH.nil
    go_simp
    refine (HO2.out _ (HR.out _ hHeld).1 (HR.out _ hHeld).2).mono ?_
    rintro e y5 ⟨⟨l6, Y2, e2, rfl, hs6, ht6⟩, hk5⟩
    have hKeep := since_step hHeld hk5
    have hs5 := hs5.below hk5
    have ht5 := ht5.below hk5
    go_wp2_with fail
    refine hK.out _ _ (by (try dsimp only); exact hKeep) (fun hHeld => ?_)
    clear hK K hKeep
    try simp only [Act.put, List.setIfInBounds_toArray, List.set_cons_zero, List.set_cons_succ]
    refine wpAnyH_ready (rs := [6]) (by kernel_rfl) (by simp) ?_
    refine AllReadyH.cons (o := { dst := some 101, op := _, type := _, pos := _, after := _, guard := _ }) rfl (fun K hK => ?_) AllReadyH.nil
    go_simp
    refine (HM3.out Y1 Y2 e1 e2 l5 l6 _ hs5 hs6 ht5 ht6).mono ?_
    rintro e y6 ⟨rfl, hk6⟩
    have hKeep := since_step hHeld hk6
    go_wp2_with fail
    refine hK.out _ _ (by (try dsimp only); exact hKeep) (fun hHeld => ?_)
    clear hK K hKeep
    try simp only [Act.put, List.setIfInBounds_toArray, List.set_cons_zero, List.set_cons_succ]
    refine wpAnyH_take (i := 7) (oi := { dst := some 102, op := _, type := _, pos := _, after := _, guard := _ }) (v := ?_) rfl (by kernel_rfl) (by kernel_rfl) (by kernel_rfl) (fun _ _ _ h => h) (Or.inl ⟨by rfl, ?_⟩) hHeld ?_
    rotate_left
    · (intro w hSw; obtain ⟨hu9, hv9⟩ := HU.out _ hSw; obtain ⟨u0, u1⟩ := hu9.got; obtain ⟨v0, v1⟩ := hv9.got; simp only at u0 u1 v0 v1; go_simp <;> with_reducible rfl)
    try simp only [Act.put, List.setIfInBounds_toArray, List.set_cons_zero, List.set_cons_succ]
    refine wpAnyH_take (i := 8) (oi := { dst := some 103, op := _, type := _, pos := _, after := _, guard := _ }) (v := ?_) rfl (by kernel_rfl) (by kernel_rfl) (by kernel_rfl) (fun _ _ _ h => h) (Or.inl ⟨by rfl, ?_⟩) hHeld ?_
    rotate_left
    · (intro w hSw; obtain ⟨hu9, hv9⟩ := HU.out _ hSw; obtain ⟨u0, u1⟩ := hu9.got; obtain ⟨v0, v1⟩ := hv9.got; simp only at u0 u1 v0 v1; go_simp <;> with_reducible rfl)
    try simp only [Act.put, List.setIfInBounds_toArray, List.set_cons_zero, List.set_cons_succ]
    refine wpAnyH_take (i := 9) (oi := { dst := some 104, op := _, type := _, pos := _, after := _, guard := _ }) (v := ?_) rfl (by kernel_rfl) (by kernel_rfl) (by kernel_rfl) (fun _ _ _ h => h) (Or.inl ⟨by rfl, ?_⟩) hHeld ?_
    rotate_left
    · (intro w hSw; obtain ⟨hu9, hv9⟩ := HU.out _ hSw; obtain ⟨u0, u1⟩ := hu9.got; obtain ⟨v0, v1⟩ := hv9.got; simp only at u0 u1 v0 v1; go_simp <;> with_reducible rfl)
    try simp only [Act.put, List.setIfInBounds_toArray, List.set_cons_zero, List.set_cons_succ]
    refine wpAnyH_take (i := 11) (oi := { dst := some 106, op := _, type := _, pos := _, after := _, guard := _ }) (v := ?_) rfl (by kernel_rfl) (by kernel_rfl) (by kernel_rfl) (fun _ _ _ h => h) (Or.inl ⟨by rfl, ?_⟩) hHeld ?_
    rotate_left
    · (intro w hSw; obtain ⟨hu9, hv9⟩ := HU.out _ hSw; obtain ⟨u0, u1⟩ := hu9.got; obtain ⟨v0, v1⟩ := hv9.got; simp only at u0 u1 v0 v1; go_simp <;> with_reducible rfl)
    try simp only [Act.put, List.setIfInBounds_toArray, List.set_cons_zero, List.set_cons_succ]
    refine wpAnyH_take (i := 12) (oi := { dst := some 107, op := _, type := _, pos := _, after := _, guard := _ }) (v := ?_) rfl (by kernel_rfl) (by kernel_rfl) (by kernel_rfl) (fun _ _ _ h => h) (Or.inl ⟨by rfl, ?_⟩) hHeld ?_
    rotate_left
    · (intro w hSw; obtain ⟨hu9, hv9⟩ := HU.out _ hSw; obtain ⟨u0, u1⟩ := hu9.got; obtain ⟨v0, v1⟩ := hv9.got; simp only at u0 u1 v0 v1; go_simp <;> with_reducible rfl)
    try simp only [Act.put, List.setIfInBounds_toArray, List.set_cons_zero, List.set_cons_succ]
    refine wpAnyH_ready (rs := [10]) (by kernel_rfl) (by simp) ?_
    refine AllReadyH.cons (o := { dst := some 105, op := _, type := _, pos := _, after := _, guard := _ }) rfl (fun K hK => ?_) AllReadyH.nil
    go_simp
    refine (HW1.out _ (HR.out _ hHeld).1 (HR.out _ hHeld).2).mono ?_
    rintro e y10 ⟨rfl, hk10⟩
    have hKeep := since_step hHeld hk10
    go_wp2_with fail
    refine hK.out _ _ (by (try dsimp only); exact hKeep) (fun hHeld => ?_)
    clear hK K hKeep
    try simp only [Act.put, List.setIfInBounds_toArray, List.set_cons_zero, List.set_cons_succ]
    refine wpAnyH_ready (rs := [13]) (by kernel_rfl) (by simp) ?_
    refine AllReadyH.cons (o := { dst := some 108, op := _, type := _, pos := _, after := _, guard := _ }) rfl (fun K hK => ?_) AllReadyH.nil
    go_simp
    refine (HW2.out _ (HR.out _ hHeld).1 (HR.out _ hHeld).2).mono ?_
    rintro e y13 ⟨rfl, hk13⟩
    have hKeep := since_step hHeld hk13
    go_wp2_with fail
    refine hK.out _ _ (by (try dsimp only); exact hKeep) (fun hHeld => ?_)
    clear hK K hKeep
    try simp only [Act.put, List.setIfInBounds_toArray, List.set_cons_zero, List.set_cons_succ]
    refine wpAnyH_take (i := 14) (oi := { dst := some 109, op := _, type := _, pos := _, after := _, guard := _ }) (v := ?_) rfl (by kernel_rfl) (by kernel_rfl) (by kernel_rfl) (fun _ _ _ h => h) (Or.inl ⟨by rfl, ?_⟩) hHeld ?_
    rotate_left
    · (intro w hSw; obtain ⟨hu9, hv9⟩ := HU.out _ hSw; obtain ⟨u0, u1⟩ := hu9.got; obtain ⟨v0, v1⟩ := hv9.got; simp only at u0 u1 v0 v1; go_simp <;> with_reducible rfl)
    try simp only [Act.put, List.setIfInBounds_toArray, List.set_cons_zero, List.set_cons_succ]
    refine wpAnyH_take (i := 15) (oi := { dst := some 110, op := _, type := _, pos := _, after := _, guard := _ }) (v := ?_) rfl (by kernel_rfl) (by kernel_rfl) (by kernel_rfl) (fun _ _ _ h => h) (Or.inl ⟨by rfl, ?_⟩) hHeld ?_
    rotate_left
    · (intro w hSw; obtain ⟨hu9, hv9⟩ := HU.out _ hSw; obtain ⟨u0, u1⟩ := hu9.got; obtain ⟨v0, v1⟩ := hv9.got; simp only at u0 u1 v0 v1; go_simp <;> with_reducible rfl)
    try simp only [Act.put, List.setIfInBounds_toArray, List.set_cons_zero, List.set_cons_succ]
    refine wpAnyH_take (i := 16) (oi := { dst := some 111, op := _, type := _, pos := _, after := _, guard := _ }) (v := ?_) rfl (by kernel_rfl) (by kernel_rfl) (by kernel_rfl) (fun _ _ _ h => h) (Or.inl ⟨by rfl, ?_⟩) hHeld ?_
    rotate_left
    · (intro w hSw; obtain ⟨hu9, hv9⟩ := HU.out _ hSw; obtain ⟨u0, u1⟩ := hu9.got; obtain ⟨v0, v1⟩ := hv9.got; simp only at u0 u1 v0 v1; go_simp <;> with_reducible rfl)
    try simp only [Act.put, List.setIfInBounds_toArray, List.set_cons_zero, List.set_cons_succ]
    refine wpAnyH_take (i := 17) (oi := { dst := some 112, op := _, type := _, pos := _, after := _, guard := _ }) (v := ?_) rfl (by kernel_rfl) (by kernel_rfl) (by kernel_rfl) (fun _ _ _ h => h) (Or.inl ⟨by rfl, ?_⟩) hHeld ?_
    rotate_left
    · (intro w hSw; obtain ⟨hu9, hv9⟩ := HU.out _ hSw; obtain ⟨u0, u1⟩ := hu9.got; obtain ⟨v0, v1⟩ := hv9.got; simp only at u0 u1 v0 v1; go_simp <;> with_reducible rfl)
    try simp only [Act.put, List.setIfInBounds_toArray, List.set_cons_zero, List.set_cons_succ]
    refine wpAnyH_take (i := 18) (oi := { dst := some 113, op := _, type := _, pos := _, after := _, guard := _ }) (v := ?_) rfl (by kernel_rfl) (by kernel_rfl) (by kernel_rfl) (fun _ _ _ h => h) (Or.inl ⟨by rfl, ?_⟩) hHeld ?_
    rotate_left
    · (intro w hSw; obtain ⟨hu9, hv9⟩ := HU.out _ hSw; obtain ⟨u0, u1⟩ := hu9.got; obtain ⟨v0, v1⟩ := hv9.got; simp only at u0 u1 v0 v1; go_simp <;> with_reducible rfl)
    try simp only [Act.put, List.setIfInBounds_toArray, List.set_cons_zero, List.set_cons_succ]
    refine wpAnyH_take (i := 20) (oi := { dst := some 115, op := _, type := _, pos := _, after := _, guard := _ }) (v := ?_) rfl (by kernel_rfl) (by kernel_rfl) (by kernel_rfl) (fun _ _ _ h => h) (Or.inl ⟨by rfl, ?_⟩) hHeld ?_
    rotate_left
    · (intro w hSw; obtain ⟨hu9, hv9⟩ := HU.out _ hSw; obtain ⟨u0, u1⟩ := hu9.got; obtain ⟨v0, v1⟩ := hv9.got; simp only at u0 u1 v0 v1; go_simp <;> with_reducible rfl)
    try simp only [Act.put, List.setIfInBounds_toArray, List.set_cons_zero, List.set_cons_succ]
    refine wpAnyH_take (i := 21) (oi := { dst := some 116, op := _, type := _, pos := _, after := _, guard := _ }) (v := ?_) rfl (by kernel_rfl) (by kernel_rfl) (by kernel_rfl) (fun _ _ _ h => h) (Or.inl ⟨by rfl, ?_⟩) hHeld ?_
    rotate_left
    · (intro w hSw; obtain ⟨hu9, hv9⟩ := HU.out _ hSw; obtain ⟨u0, u1⟩ := hu9.got; obtain ⟨v0, v1⟩ := hv9.got; simp only at u0 u1 v0 v1; go_simp <;> with_reducible rfl)
    try simp only [Act.put, List.setIfInBounds_toArray, List.set_cons_zero, List.set_cons_succ]
    refine wpAnyH_ready (rs := [19]) (by kernel_rfl) (by simp) ?_
    refine AllReadyH.cons (o := { dst := some 114, op := _, type := _, pos := _, after := _, guard := _ }) rfl (fun K hK => ?_) AllReadyH.nil
    go_simp
    refine (HL1.out _).mono ?_
    rintro e y19 ⟨rfl, hk19⟩
    have hKeep := since_step hHeld hk19
    go_wp2_with fail
    refine hK.out _ _ (by (try dsimp only); exact hKeep) (fun hHeld => ?_)
    clear hK K hKeep
    try simp only [Act.put, List.setIfInBounds_toArray, List.set_cons_zero, List.set_cons_succ]
    refine wpAnyH_ready (rs := [22]) (by kernel_rfl) (by simp) ?_
    refine AllReadyH.cons (o := { dst := some 117, op := _, type := _, pos := _, after := _, guard := _ }) rfl (fun K hK => ?_) AllReadyH.nil
    go_simp
    refine (HL2.out _).mono ?_
    rintro e y22 ⟨rfl, hk22⟩
    have hKeep := since_step hHeld hk22
    go_wp2_with fail
    refine hK.out _ _ (by (try dsimp only); exact hKeep) (fun hHeld => ?_)
    clear hK K hKeep
    try simp only [Act.put, List.setIfInBounds_toArray, List.set_cons_zero, List.set_cons_succ]
    refine wpAnyH_take (i := 23) (oi := { dst := some 118, op := _, type := _, pos := _, after := _, guard := _ }) (v := ?_) rfl (by kernel_rfl) (by kernel_rfl) (by kernel_rfl) (fun _ _ _ h => h) (Or.inl ⟨by rfl, ?_⟩) hHeld ?_
    rotate_left
    · (intro w hSw; obtain ⟨hu9, hv9⟩ := HU.out _ hSw; obtain ⟨u0, u1⟩ := hu9.got; obtain ⟨v0, v1⟩ := hv9.got; simp only at u0 u1 v0 v1; go_simp <;> with_reducible rfl)
    try simp only [Act.put, List.setIfInBounds_toArray, List.set_cons_zero, List.set_cons_succ]
    refine wpAnyH_take (i := 24) (oi := { dst := some 119, op := _, type := _, pos := _, after := _, guard := _ }) (v := ?_) rfl (by kernel_rfl) (by kernel_rfl) (by kernel_rfl) (fun _ _ _ h => h) (Or.inl ⟨by rfl, ?_⟩) hHeld ?_
    rotate_left
    · (intro w hSw; obtain ⟨hu9, hv9⟩ := HU.out _ hSw; obtain ⟨u0, u1⟩ := hu9.got; obtain ⟨v0, v1⟩ := hv9.got; simp only at u0 u1 v0 v1; go_simp <;> with_reducible rfl)
    try simp only [Act.put, List.setIfInBounds_toArray, List.set_cons_zero, List.set_cons_succ]
    refine wpAnyH_take (i := 25) (oi := { dst := some 120, op := _, type := _, pos := _, after := _, guard := _ }) (v := ?_) rfl (by kernel_rfl) (by kernel_rfl) (by kernel_rfl) (fun _ _ _ h => h) (Or.inl ⟨by rfl, ?_⟩) hHeld ?_
    rotate_left
    · (intro w hSw; obtain ⟨hu9, hv9⟩ := HU.out _ hSw; obtain ⟨u0, u1⟩ := hu9.got; obtain ⟨v0, v1⟩ := hv9.got; simp only at u0 u1 v0 v1; go_simp <;> with_reducible rfl)
    try simp only [Act.put, List.setIfInBounds_toArray, List.set_cons_zero, List.set_cons_succ]
    refine wpAnyH_ready (rs := [26]) (by kernel_rfl) (by simp) ?_
    refine AllReadyH.cons (o := { dst := some 121, op := _, type := _, pos := _, after := _, guard := _ }) rfl (fun K hK => ?_) AllReadyH.nil
    go_simp
    refine (lives15_any _).mono ?_
    rintro e y26 ⟨rfl, hk26⟩
    have hKeep := since_step hHeld hk26
    go_wp2_with fail
    refine hK.out _ _ (by (try dsimp only); exact hKeep) (fun hHeld => ?_)
    clear hK K hKeep
    try simp only [Act.put, List.setIfInBounds_toArray, List.set_cons_zero, List.set_cons_succ]
    refine wpAnyH_take (i := 27) (oi := { dst := some 122, op := _, type := _, pos := _, after := _, guard := _ }) (v := ?_) rfl (by kernel_rfl) (by kernel_rfl) (by kernel_rfl) (fun _ _ _ h => h) (Or.inl ⟨by rfl, ?_⟩) hHeld ?_
    rotate_left
    · (intro w hSw; obtain ⟨hu9, hv9⟩ := HU.out _ hSw; obtain ⟨u0, u1⟩ := hu9.got; obtain ⟨v0, v1⟩ := hv9.got; simp only at u0 u1 v0 v1; go_simp <;> with_reducible rfl)
    try simp only [Act.put, List.setIfInBounds_toArray, List.set_cons_zero, List.set_cons_succ]
    refine wpAnyH_take (i := 28) (oi := { dst := some 10, op := _, type := _, pos := _, after := _, guard := _ }) (v := ?_) rfl (by kernel_rfl) (by kernel_rfl) (by kernel_rfl) (fun _ _ _ h => h) (Or.inl ⟨by rfl, ?_⟩) hHeld ?_
    rotate_left
    · (intro w hSw; obtain ⟨hu9, hv9⟩ := HU.out _ hSw; obtain ⟨u0, u1⟩ := hu9.got; obtain ⟨v0, v1⟩ := hv9.got; simp only at u0 u1 v0 v1; go_simp <;> with_reducible rfl)
    try simp only [Act.put, List.setIfInBounds_toArray, List.set_cons_zero, List.set_cons_succ]
    refine wpAnyH_done (by kernel_rfl) ?_ _
    have hBf := hB.trans (hHeld.mono hB.size)
    go_wp2_with fail
    go_ret
    exact ⟨rfl, hBf⟩
  | some g =>
    have hgl := hFL g rfl
    have HSO := Lib.hid (fun A1 A2 c1 c2 V h1 h2 => sameone_self g.id g.mem g.kind A1 A2 c1 c2 g.L V (by omega) h1 h2)
    unfold FRes at HF1 HF2
    simp only at HF1 HF2
    clear hFL
    go_wp2_with fail
    refine (HF1.out _ hR0 hK).mono ?_
    rintro e z5 ⟨⟨X5, d5, rfl, hsN⟩, hb⟩
    have hB := since_step hB hb
    have hU := hU.below hb
    have hY := hY.below hb
    have hK := hK.below hb
    have hR0 := hR0.below hb
    have hr1 := hr1.below hb
    have ht1 := ht1.below hb
    have hr2 := hr2.below hb
    have ht2 := ht2.below hb
    have hr3 := hr3.below hb
    have ht3 := ht3.below hb
    have hr4 := hr4.below hb
    have ht4 := ht4.below hb
    clear hb
    have hr5 := hsN
    clear hsN
    go_wp2_with fail
    have hP := Aq.new z5 ⟨g.id, g.mem, g.kind, X5, g.L.length, d5⟩
    have hA := (Below.refl z5.heap.size z5).alloc (Nat.le_refl _) (.cells #[.int .i64 g.id, .int .i64 g.mem, .int .i64 g.kind, .slice X5 g.L.length d5] 24)
    have hU := hU.below hA
    have hY := hY.below hA
    have hK := hK.below hA
    have hR0 := hR0.below hA
    have hr1 := hr1.below hA
    have ht1 := ht1.below hA
    have hr2 := hr2.below hA
    have ht2 := ht2.below hA
    have hr3 := hr3.below hA
    have ht3 := ht3.below hA
    have hr4 := hr4.below hA
    have ht4 := ht4.below hA
    have hr5 := hr5.below hA
    have hB := since_step hB hA
    clear hA
    refine (HF2.out _ hR0 hK).mono ?_
    rintro e z6 ⟨⟨X6, d6, rfl, hsN⟩, hb⟩
    have hB := since_step hB hb
    have hU := hU.below hb
    have hY := hY.below hb
    have hK := hK.below hb
    have hR0 := hR0.below hb
    have hr1 := hr1.below hb
    have ht1 := ht1.below hb
    have hr2 := hr2.below hb
    have ht2 := ht2.below hb
    have hr3 := hr3.below hb
    have ht3 := ht3.below hb
    have hr4 := hr4.below hb
    have ht4 := ht4.below hb
    have hr5 := hr5.below hb
    have hP := hP.below hb
    clear hb
    have hr6 := hsN
    clear hsN
    obtain ⟨hP_0, hP_1, hP_2, hP_3⟩ := hP.got
    have hP_l := hP.lt
    go_wp2_with fail
    have hQ := Aq.new z6 ⟨g.id, g.mem, g.kind, X6, g.L.length, d6⟩
    have hA := (Below.refl z6.heap.size z6).alloc (Nat.le_refl _) (.cells #[.int .i64 g.id, .int .i64 g.mem, .int .i64 g.kind, .slice X6 g.L.length d6] 24)
    have hU := hU.below hA
    have hY := hY.below hA
    have hK := hK.below hA
    have hR0 := hR0.below hA
    have hr1 := hr1.below hA
    have ht1 := ht1.below hA
    have hr2 := hr2.below hA
    have ht2 := ht2.below hA
    have hr3 := hr3.below hA
    have ht3 := ht3.below hA
    have hr4 := hr4.below hA
    have ht4 := ht4.below hA
    have hr5 := hr5.below hA
    have hP := hP.below hA
    have hr6 := hr6.below hA
    have hB := since_step hB hA
    clear hA
    refine (HM1.out X1 X2 d1 d2 l1 l2 _ hr1 hr2 ht1 ht2).mono ?_
    rintro e z7 ⟨rfl, hb⟩
    have hB := since_step hB hb
    have hU := hU.below hb
    have hY := hY.below hb
    have hK := hK.below hb
    have hR0 := hR0.below hb
    have hr1 := hr1.below hb
    have ht1 := ht1.below hb
    have hr2 := hr2.below hb
    have ht2 := ht2.below hb
    have hr3 := hr3.below hb
    have ht3 := ht3.below hb
    have hr4 := hr4.below hb
    have ht4 := ht4.below hb
    have hr5 := hr5.below hb
    have hP := hP.below hb
    have hr6 := hr6.below hb
    have hQ := hQ.below hb
    clear hb
    clear hP_0 hP_1 hP_2 hP_3 hP_l
    obtain ⟨hP_0, hP_1, hP_2, hP_3⟩ := hP.got
    have hP_l := hP.lt
    obtain ⟨hQ_0, hQ_1, hQ_2, hQ_3⟩ := hQ.got
    have hQ_l := hQ.lt
    go_wp2_with fail
    refine (HM2.out X3 X4 d3 d4 l3 l4 _ hr3 hr4 ht3 ht4).mono ?_
    rintro e z8 ⟨rfl, hb⟩
    have hB := since_step hB hb
    have hU := hU.below hb
    have hY := hY.below hb
    have hK := hK.below hb
    have hR0 := hR0.below hb
    have hr1 := hr1.below hb
    have ht1 := ht1.below hb
    have hr2 := hr2.below hb
    have ht2 := ht2.below hb
    have hr3 := hr3.below hb
    have ht3 := ht3.below hb
    have hr4 := hr4.below hb
    have ht4 := ht4.below hb
    have hr5 := hr5.below hb
    have hP := hP.below hb
    have hr6 := hr6.below hb
    have hQ := hQ.below hb
    clear hb
    clear hP_0 hP_1 hP_2 hP_3 hP_l hQ_0 hQ_1 hQ_2 hQ_3 hQ_l
    obtain ⟨hP_0, hP_1, hP_2, hP_3⟩ := hP.got
    have hP_l := hP.lt
    obtain ⟨hQ_0, hQ_1, hQ_2, hQ_3⟩ := hQ.got
    have hQ_l := hQ.lt
    go_wp2_with fail
    refine (HSO.out X5 X6 d5 d6 _ hr5 hr6).mono ?_
    rintro e z9 ⟨rfl, hb⟩
    have hB := since_step hB hb
    have hU := hU.below hb
    have hY := hY.below hb
    have hK := hK.below hb
    have hR0 := hR0.below hb
    have hr1 := hr1.below hb
    have ht1 := ht1.below hb
    have hr2 := hr2.below hb
    have ht2 := ht2.below hb
    have hr3 := hr3.below hb
    have ht3 := ht3.below hb
    have hr4 := hr4.below hb
    have ht4 := ht4.below hb
    have hr5 := hr5.below hb
    have hP := hP.below hb
    have hr6 := hr6.below hb
    have hQ := hQ.below hb
    clear hb
    clear hP_0 hP_1 hP_2 hP_3 hP_l hQ_0 hQ_1 hQ_2 hQ_3 hQ_l
    clear hr5 hr6
    go_upto_region 10 with fail
    clear hP hQ hr1 hr2 hr3 hr4 ht1 ht2 ht3 ht4
    generalize z9 = Y at *
    have HU : Hid (∀ V, Below Y.heap.size Y V → Un.Bx V (w.heap.size + 1) ⟨ua, uc⟩ ∧ Un.Bx V (w.heap.size + 2) ⟨va, vc⟩) := Lib.hid fun V hV' => ⟨hU.below hV', hY.below hV'⟩
    have HR : Hid (∀ V, Below Y.heap.size Y V → Sl V AT (rc Ac.cells R) ∧ Tab V R cs) := Lib.hid fun V hV' => ⟨hR0.below hV', hK.below hV'⟩
    clear hU hY hR0 hK
    go_wp2_with fail
    refine wp_region_held_drew (S := (fun V => Below Y.heap.size Y V)) (by kernel_rfl) (by exact (Below.refl _ _).drew) (fun hHeld => ?_)
    refine wpAnyH_take (i := 0) (oi := { dst := some 95, op := _, type := _, pos := _, after := _, guard := _ }) (v := ?_) rfl (by kernel_rfl) (by kernel_rfl) (by kernel_rfl) (fun _ _ _ h => h) (Or.inl ⟨by rfl, ?_⟩) hHeld ?_
    rotate_left
    · (intro w hSw; obtain ⟨hu9, hv9⟩ := HU.out _ hSw; obtain ⟨u0, u1⟩ := hu9.got; obtain ⟨v0, v1⟩ := hv9.got; simp only at u0 u1 v0 v1; go_simp <;> with_reducible rfl)
    try simp only [Act.put, List.setIfInBounds_toArray, List.set_cons_zero, List.set_cons_succ]
    refine wpAnyH_take (i := 1) (oi := { dst := some 96, op := _, type := _, pos := _, after := _, guard := _ }) (v := ?_) rfl (by kernel_rfl) (by kernel_rfl) (by kernel_rfl) (fun _ _ _ h => h) (Or.inl ⟨by rfl, ?_⟩) hHeld ?_
    rotate_left
    · (intro w hSw; obtain ⟨hu9, hv9⟩ := HU.out _ hSw; obtain ⟨u0, u1⟩ := hu9.got; obtain ⟨v0, v1⟩ := hv9.got; simp only at u0 u1 v0 v1; go_simp <;> with_reducible rfl)
    try simp only [Act.put, List.setIfInBounds_toArray, List.set_cons_zero, List.set_cons_succ]
    refine wpAnyH_take (i := 3) (oi := { dst := some 98, op := _, type := _, pos := _, after := _, guard := _ }) (v := ?_) rfl (by kernel_rfl) (by kernel_rfl) (by kernel_rfl) (fun _ _ _ h => h) (Or.inl ⟨by rfl, ?_⟩) hHeld ?_
    rotate_left
    · (intro w hSw; obtain ⟨hu9, hv9⟩ := HU.out _ hSw; obtain ⟨u0, u1⟩ := hu9.got; obtain ⟨v0, v1⟩ := hv9.got; simp only at u0 u1 v0 v1; go_simp <;> with_reducible rfl)
    try simp only [Act.put, List.setIfInBounds_toArray, List.set_cons_zero, List.set_cons_succ]
    refine wpAnyH_take (i := 4) (oi := { dst := some 99, op := _, type := _, pos := _, after := _, guard := _ }) (v := ?_) rfl (by kernel_rfl) (by kernel_rfl) (by kernel_rfl) (fun _ _ _ h => h) (Or.inl ⟨by rfl, ?_⟩) hHeld ?_
    rotate_left
    · (intro w hSw; obtain ⟨hu9, hv9⟩ := HU.out _ hSw; obtain ⟨u0, u1⟩ := hu9.got; obtain ⟨v0, v1⟩ := hv9.got; simp only at u0 u1 v0 v1; go_simp <;> with_reducible rfl)
    try simp only [Act.put, List.setIfInBounds_toArray, List.set_cons_zero, List.set_cons_succ]
    refine wpAnyH_ready (rs := [2]) (by kernel_rfl) (by simp) ?_
    refine AllReadyH.cons (o := { dst := some 97, op := _, type := _, pos := _, after := _, guard := _ }) rfl (fun K hK => ?_) AllReadyH.nil
    go_simp
    refine (HO1.out _ (HR.out _ hHeld).1 (HR.out _ hHeld).2).mono ?_
    rintro e y2 ⟨⟨l5, Y1, e1, rfl, hs5, ht5⟩, hk2⟩
    have hKeep := since_step hHeld hk2
    go_wp2_with fail
    refine hK.out _ _ (by (try dsimp only); exact hKeep) (fun hHeld => ?_)
    clear hK K hKeep
    try simp only [Act.put, List.setIfInBounds_toArray, List.set_cons_zero, List.set_cons_succ]
    refine wpAnyH_ready (rs := [5]) (by kernel_rfl) (by simp) ?_
    refine AllReadyH.cons (o := { dst := some 100, op := _, type := _, pos := _, after := _, guard := _ }) rfl (fun K hK => ?_) AllReadyH.nil
    go_simp
    refine (HO2.out _ (HR.out _ hHeld).1 (HR.out _ hHeld).2).mono ?_
    rintro e y5 ⟨⟨l6, Y2, e2, rfl, hs6, ht6⟩, hk5⟩
    have hKeep := since_step hHeld hk5
    have hs5 := hs5.below hk5
    have ht5 := ht5.below hk5
    go_wp2_with fail
    refine hK.out _ _ (by (try dsimp only); exact hKeep) (fun hHeld => ?_)
    clear hK K hKeep
    try simp only [Act.put, List.setIfInBounds_toArray, List.set_cons_zero, List.set_cons_succ]
    refine wpAnyH_ready (rs := [6]) (by kernel_rfl) (by simp) ?_
    refine AllReadyH.cons (o := { dst := some 101, op := _, type := _, pos := _, after := _, guard := _ }) rfl (fun K hK => ?_) AllReadyH.nil
    go_simp
    refine (HM3.out Y1 Y2 e1 e2 l5 l6 _ hs5 hs6 ht5 ht6).mono ?_
    rintro e y6 ⟨rfl, hk6⟩
    have hKeep := since_step hHeld hk6
    go_wp2_with fail
    refine hK.out _ _ (by (try dsimp only); exact hKeep) (fun hHeld => ?_)
    clear hK K hKeep
    try simp only [Act.put, List.setIfInBounds_toArray, List.set_cons_zero, List.set_cons_succ]
    refine wpAnyH_take (i := 7) (oi := { dst := some 102, op := _, type := _, pos := _, after := _, guard := _ }) (v := ?_) rfl (by kernel_rfl) (by kernel_rfl) (by kernel_rfl) (fun _ _ _ h => h) (Or.inl ⟨by rfl, ?_⟩) hHeld ?_
    rotate_left
    · (intro w hSw; obtain ⟨hu9, hv9⟩ := HU.out _ hSw; obtain ⟨u0, u1⟩ := hu9.got; obtain ⟨v0, v1⟩ := hv9.got; simp only at u0 u1 v0 v1; go_simp <;> with_reducible rfl)
    try simp only [Act.put, List.setIfInBounds_toArray, List.set_cons_zero, List.set_cons_succ]
    refine wpAnyH_take (i := 8) (oi := { dst := some 103, op := _, type := _, pos := _, after := _, guard := _ }) (v := ?_) rfl (by kernel_rfl) (by kernel_rfl) (by kernel_rfl) (fun _ _ _ h => h) (Or.inl ⟨by rfl, ?_⟩) hHeld ?_
    rotate_left
    · (intro w hSw; obtain ⟨hu9, hv9⟩ := HU.out _ hSw; obtain ⟨u0, u1⟩ := hu9.got; obtain ⟨v0, v1⟩ := hv9.got; simp only at u0 u1 v0 v1; go_simp <;> with_reducible rfl)
    try simp only [Act.put, List.setIfInBounds_toArray, List.set_cons_zero, List.set_cons_succ]
    refine wpAnyH_take (i := 9) (oi := { dst := some 104, op := _, type := _, pos := _, after := _, guard := _ }) (v := ?_) rfl (by kernel_rfl) (by kernel_rfl) (by kernel_rfl) (fun _ _ _ h => h) (Or.inl ⟨by rfl, ?_⟩) hHeld ?_
    rotate_left
    · (intro w hSw; obtain ⟨hu9, hv9⟩ := HU.out _ hSw; obtain ⟨u0, u1⟩ := hu9.got; obtain ⟨v0, v1⟩ := hv9.got; simp only at u0 u1 v0 v1; go_simp <;> with_reducible rfl)
    try simp only [Act.put, List.setIfInBounds_toArray, List.set_cons_zero, List.set_cons_succ]
    refine wpAnyH_take (i := 11) (oi := { dst := some 106, op := _, type := _, pos := _, after := _, guard := _ }) (v := ?_) rfl (by kernel_rfl) (by kernel_rfl) (by kernel_rfl) (fun _ _ _ h => h) (Or.inl ⟨by rfl, ?_⟩) hHeld ?_
    rotate_left
    · (intro w hSw; obtain ⟨hu9, hv9⟩ := HU.out _ hSw; obtain ⟨u0, u1⟩ := hu9.got; obtain ⟨v0, v1⟩ := hv9.got; simp only at u0 u1 v0 v1; go_simp <;> with_reducible rfl)
    try simp only [Act.put, List.setIfInBounds_toArray, List.set_cons_zero, List.set_cons_succ]
    refine wpAnyH_take (i := 12) (oi := { dst := some 107, op := _, type := _, pos := _, after := _, guard := _ }) (v := ?_) rfl (by kernel_rfl) (by kernel_rfl) (by kernel_rfl) (fun _ _ _ h => h) (Or.inl ⟨by rfl, ?_⟩) hHeld ?_
    rotate_left
    · (intro w hSw; obtain ⟨hu9, hv9⟩ := HU.out _ hSw; obtain ⟨u0, u1⟩ := hu9.got; obtain ⟨v0, v1⟩ := hv9.got; simp only at u0 u1 v0 v1; go_simp <;> with_reducible rfl)
    try simp only [Act.put, List.setIfInBounds_toArray, List.set_cons_zero, List.set_cons_succ]
    refine wpAnyH_ready (rs := [10]) (by kernel_rfl) (by simp) ?_
    refine AllReadyH.cons (o := { dst := some 105, op := _, type := _, pos := _, after := _, guard := _ }) rfl (fun K hK => ?_) AllReadyH.nil
    go_simp
    refine (HW1.out _ (HR.out _ hHeld).1 (HR.out _ hHeld).2).mono ?_
    rintro e y10 ⟨rfl, hk10⟩
    have hKeep := since_step hHeld hk10
    go_wp2_with fail
    refine hK.out _ _ (by (try dsimp only); exact hKeep) (fun hHeld => ?_)
    clear hK K hKeep
    try simp only [Act.put, List.setIfInBounds_toArray, List.set_cons_zero, List.set_cons_succ]
    refine wpAnyH_ready (rs := [13]) (by kernel_rfl) (by simp) ?_
    refine AllReadyH.cons (o := { dst := some 108, op := _, type := _, pos := _, after := _, guard := _ }) rfl (fun K hK => ?_) AllReadyH.nil
    go_simp
    refine (HW2.out _ (HR.out _ hHeld).1 (HR.out _ hHeld).2).mono ?_
    rintro e y13 ⟨rfl, hk13⟩
    have hKeep := since_step hHeld hk13
    go_wp2_with fail
    refine hK.out _ _ (by (try dsimp only); exact hKeep) (fun hHeld => ?_)
    clear hK K hKeep
    try simp only [Act.put, List.setIfInBounds_toArray, List.set_cons_zero, List.set_cons_succ]
    refine wpAnyH_take (i := 14) (oi := { dst := some 109, op := _, type := _, pos := _, after := _, guard := _ }) (v := ?_) rfl (by kernel_rfl) (by kernel_rfl) (by kernel_rfl) (fun _ _ _ h => h) (Or.inl ⟨by rfl, ?_⟩) hHeld ?_
    rotate_left
    · (intro w hSw; obtain ⟨hu9, hv9⟩ := HU.out _ hSw; obtain ⟨u0, u1⟩ := hu9.got; obtain ⟨v0, v1⟩ := hv9.got; simp only at u0 u1 v0 v1; go_simp <;> with_reducible rfl)
    try simp only [Act.put, List.setIfInBounds_toArray, List.set_cons_zero, List.set_cons_succ]
    refine wpAnyH_take (i := 15) (oi := { dst := some 110, op := _, type := _, pos := _, after := _, guard := _ }) (v := ?_) rfl (by kernel_rfl) (by kernel_rfl) (by kernel_rfl) (fun _ _ _ h => h) (Or.inl ⟨by rfl, ?_⟩) hHeld ?_
    rotate_left
    · (intro w hSw; obtain ⟨hu9, hv9⟩ := HU.out _ hSw; obtain ⟨u0, u1⟩ := hu9.got; obtain ⟨v0, v1⟩ := hv9.got; simp only at u0 u1 v0 v1; go_simp <;> with_reducible rfl)
    try simp only [Act.put, List.setIfInBounds_toArray, List.set_cons_zero, List.set_cons_succ]
    refine wpAnyH_take (i := 16) (oi := { dst := some 111, op := _, type := _, pos := _, after := _, guard := _ }) (v := ?_) rfl (by kernel_rfl) (by kernel_rfl) (by kernel_rfl) (fun _ _ _ h => h) (Or.inl ⟨by rfl, ?_⟩) hHeld ?_
    rotate_left
    · (intro w hSw; obtain ⟨hu9, hv9⟩ := HU.out _ hSw; obtain ⟨u0, u1⟩ := hu9.got; obtain ⟨v0, v1⟩ := hv9.got; simp only at u0 u1 v0 v1; go_simp <;> with_reducible rfl)
    try simp only [Act.put, List.setIfInBounds_toArray, List.set_cons_zero, List.set_cons_succ]
    refine wpAnyH_take (i := 17) (oi := { dst := some 112, op := _, type := _, pos := _, after := _, guard := _ }) (v := ?_) rfl (by kernel_rfl) (by kernel_rfl) (by kernel_rfl) (fun _ _ _ h => h) (Or.inl ⟨by rfl, ?_⟩) hHeld ?_
    rotate_left
    · (intro w hSw; obtain ⟨hu9, hv9⟩ := HU.out _ hSw; obtain ⟨u0, u1⟩ := hu9.got; obtain ⟨v0, v1⟩ := hv9.got; simp only at u0 u1 v0 v1; go_simp <;> with_reducible rfl)
    try simp only [Act.put, List.setIfInBounds_toArray, List.set_cons_zero, List.set_cons_succ]
    refine wpAnyH_take (i := 18) (oi := { dst := some 113, op := _, type := _, pos := _, after := _, guard := _ }) (v := ?_) rfl (by kernel_rfl) (by kernel_rfl) (by kernel_rfl) (fun _ _ _ h => h) (Or.inl ⟨by rfl, ?_⟩) hHeld ?_
    rotate_left
    · (intro w hSw; obtain ⟨hu9, hv9⟩ := HU.out _ hSw; obtain ⟨u0, u1⟩ := hu9.got; obtain ⟨v0, v1⟩ := hv9.got; simp only at u0 u1 v0 v1; go_simp <;> with_reducible rfl)
    try simp only [Act.put, List.setIfInBounds_toArray, List.set_cons_zero, List.set_cons_succ]
    refine wpAnyH_take (i := 20) (oi := { dst := some 115, op := _, type := _, pos := _, after := _, guard := _ }) (v := ?_) rfl (by kernel_rfl) (by kernel_rfl) (by kernel_rfl) (fun _ _ _ h => h) (Or.inl ⟨by rfl, ?_⟩) hHeld ?_
    rotate_left
    · (intro w hSw; obtain ⟨hu9, hv9⟩ := HU.out _ hSw; obtain ⟨u0, u1⟩ := hu9.got; obtain ⟨v0, v1⟩ := hv9.got; simp only at u0 u1 v0 v1; go_simp <;> with_reducible rfl)
    try simp only [Act.put, List.setIfInBounds_toArray, List.set_cons_zero, List.set_cons_succ]
    refine wpAnyH_take (i := 21) (oi := { dst := some 116, op := _, type := _, pos := _, after := _, guard := _ }) (v := ?_) rfl (by kernel_rfl) (by kernel_rfl) (by kernel_rfl) (fun _ _ _ h => h) (Or.inl ⟨by rfl, ?_⟩) hHeld ?_
    rotate_left
    · (intro w hSw; obtain ⟨hu9, hv9⟩ := HU.out _ hSw; obtain ⟨u0, u1⟩ := hu9.got; obtain ⟨v0, v1⟩ := hv9.got; simp only at u0 u1 v0 v1; go_simp <;> with_reducible rfl)
    try simp only [Act.put, List.setIfInBounds_toArray, List.set_cons_zero, List.set_cons_succ]
    refine wpAnyH_ready (rs := [19]) (by kernel_rfl) (by simp) ?_
    refine AllReadyH.cons (o := { dst := some 114, op := _, type := _, pos := _, after := _, guard := _ }) rfl (fun K hK => ?_) AllReadyH.nil
    go_simp
    refine (HL1.out _).mono ?_
    rintro e y19 ⟨rfl, hk19⟩
    have hKeep := since_step hHeld hk19
    go_wp2_with fail
    refine hK.out _ _ (by (try dsimp only); exact hKeep) (fun hHeld => ?_)
    clear hK K hKeep
    try simp only [Act.put, List.setIfInBounds_toArray, List.set_cons_zero, List.set_cons_succ]
    refine wpAnyH_ready (rs := [22]) (by kernel_rfl) (by simp) ?_
    refine AllReadyH.cons (o := { dst := some 117, op := _, type := _, pos := _, after := _, guard := _ }) rfl (fun K hK => ?_) AllReadyH.nil
    go_simp
    refine (HL2.out _).mono ?_
    rintro e y22 ⟨rfl, hk22⟩
    have hKeep := since_step hHeld hk22
    go_wp2_with fail
    refine hK.out _ _ (by (try dsimp only); exact hKeep) (fun hHeld => ?_)
    clear hK K hKeep
    try simp only [Act.put, List.setIfInBounds_toArray, List.set_cons_zero, List.set_cons_succ]
    refine wpAnyH_take (i := 23) (oi := { dst := some 118, op := _, type := _, pos := _, after := _, guard := _ }) (v := ?_) rfl (by kernel_rfl) (by kernel_rfl) (by kernel_rfl) (fun _ _ _ h => h) (Or.inl ⟨by rfl, ?_⟩) hHeld ?_
    rotate_left
    · (intro w hSw; obtain ⟨hu9, hv9⟩ := HU.out _ hSw; obtain ⟨u0, u1⟩ := hu9.got; obtain ⟨v0, v1⟩ := hv9.got; simp only at u0 u1 v0 v1; go_simp <;> with_reducible rfl)
    try simp only [Act.put, List.setIfInBounds_toArray, List.set_cons_zero, List.set_cons_succ]
    refine wpAnyH_take (i := 24) (oi := { dst := some 119, op := _, type := _, pos := _, after := _, guard := _ }) (v := ?_) rfl (by kernel_rfl) (by kernel_rfl) (by kernel_rfl) (fun _ _ _ h => h) (Or.inl ⟨by rfl, ?_⟩) hHeld ?_
    rotate_left
    · (intro w hSw; obtain ⟨hu9, hv9⟩ := HU.out _ hSw; obtain ⟨u0, u1⟩ := hu9.got; obtain ⟨v0, v1⟩ := hv9.got; simp only at u0 u1 v0 v1; go_simp <;> with_reducible rfl)
    try simp only [Act.put, List.setIfInBounds_toArray, List.set_cons_zero, List.set_cons_succ]
    refine wpAnyH_take (i := 25) (oi := { dst := some 120, op := _, type := _, pos := _, after := _, guard := _ }) (v := ?_) rfl (by kernel_rfl) (by kernel_rfl) (by kernel_rfl) (fun _ _ _ h => h) (Or.inl ⟨by rfl, ?_⟩) hHeld ?_
    rotate_left
    · (intro w hSw; obtain ⟨hu9, hv9⟩ := HU.out _ hSw; obtain ⟨u0, u1⟩ := hu9.got; obtain ⟨v0, v1⟩ := hv9.got; simp only at u0 u1 v0 v1; go_simp <;> with_reducible rfl)
    try simp only [Act.put, List.setIfInBounds_toArray, List.set_cons_zero, List.set_cons_succ]
    refine wpAnyH_ready (rs := [26]) (by kernel_rfl) (by simp) ?_
    refine AllReadyH.cons (o := { dst := some 121, op := _, type := _, pos := _, after := _, guard := _ }) rfl (fun K hK => ?_) AllReadyH.nil
    go_simp
    refine (lives15_any _).mono ?_
    rintro e y26 ⟨rfl, hk26⟩
    have hKeep := since_step hHeld hk26
    go_wp2_with fail
    refine hK.out _ _ (by (try dsimp only); exact hKeep) (fun hHeld => ?_)
    clear hK K hKeep
    try simp only [Act.put, List.setIfInBounds_toArray, List.set_cons_zero, List.set_cons_succ]
    refine wpAnyH_take (i := 27) (oi := { dst := some 122, op := _, type := _, pos := _, after := _, guard := _ }) (v := ?_) rfl (by kernel_rfl) (by kernel_rfl) (by kernel_rfl) (fun _ _ _ h => h) (Or.inl ⟨by rfl, ?_⟩) hHeld ?_
    rotate_left
    · (intro w hSw; obtain ⟨hu9, hv9⟩ := HU.out _ hSw; obtain ⟨u0, u1⟩ := hu9.got; obtain ⟨v0, v1⟩ := hv9.got; simp only at u0 u1 v0 v1; go_simp <;> with_reducible rfl)
    try simp only [Act.put, List.setIfInBounds_toArray, List.set_cons_zero, List.set_cons_succ]
    refine wpAnyH_take (i := 28) (oi := { dst := some 10, op := _, type := _, pos := _, after := _, guard := _ }) (v := ?_) rfl (by kernel_rfl) (by kernel_rfl) (by kernel_rfl) (fun _ _ _ h => h) (Or.inl ⟨by rfl, ?_⟩) hHeld ?_
    rotate_left
    · (intro w hSw; obtain ⟨hu9, hv9⟩ := HU.out _ hSw; obtain ⟨u0, u1⟩ := hu9.got; obtain ⟨v0, v1⟩ := hv9.got; simp only at u0 u1 v0 v1; go_simp <;> with_reducible rfl)
    try simp only [Act.put, List.setIfInBounds_toArray, List.set_cons_zero, List.set_cons_succ]
    refine wpAnyH_done (by kernel_rfl) ?_ _
    have hBf := hB.trans (hHeld.mono hB.size)
    go_wp2_with fail
    go_ret
    exact ⟨rfl, hBf⟩
end Go.Proofs.Ytpnaihnmmnjacaa
