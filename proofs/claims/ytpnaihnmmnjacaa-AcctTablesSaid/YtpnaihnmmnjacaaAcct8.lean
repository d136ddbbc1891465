/-
  Layer 15, eighth part: short, lives, AcctBinds (laid by gen_acct8.py).
-/
import Derived.Test.YtpnaihnmmnjacaaAcct7
namespace Go.Proofs.Ytpnaihnmmnjacaa
open Go.ChangeShapes Go.WideShapes Go.ChangeAt Go.RowKit
set_option linter.unusedVariables false
set_option linter.unusedSimpArgs false

structure Aq (w : World) (b : Nat) (g : Ac) : Prop where
  lt : b < w.heap.size
  at_ : g.at w b 0
theorem Aq.of {w : World} {b : Nat} {g : Ac} (h : Ac.Bx w b g) : Aq w b g := ⟨h.lt, h.at_⟩
theorem Aq.new (w : World) (g : Ac) : Aq (w.alloc (.cells g.cells.toArray 24)) w.heap.size g := Aq.of (Ac.Bx.new w g)
theorem Aq.below {w w' : World} {b : Nat} {g : Ac} (h : Aq w b g) (hb : Below w.heap.size w w') : Aq w' b g := ⟨Nat.lt_of_lt_of_le h.lt hb.size, Ac.at_keep h.at_ fun i => hb.cell (p := ⟨b, i, none⟩) h.lt⟩
theorem Aq.got {w : World} {b : Nat} {g : Ac} (h : Aq w b g) : w.cell? ⟨b, 0, none⟩ = some (.int .i64 g.id) ∧ w.cell? ⟨b, 1, none⟩ = some (.int .i64 g.mem) ∧ w.cell? ⟨b, 2, none⟩ = some (.int .i64 g.kind) ∧ w.cell? ⟨b, 3, none⟩ = some (.slice g.cl g.clL g.clC) := by
  have := h.at_
  unfold Ac.at at this
  simpa only [Nat.zero_add] using this
theorem Aq.set4 {w : World} {b : Nat} {g : Ac} (h : Aq w b g) (g' : Ac) :
    Aq ((((w.setCell ⟨b, 0, none⟩ (.int .i64 g'.id)).setCell ⟨b, 1, none⟩ (.int .i64 g'.mem)).setCell ⟨b, 2, none⟩ (.int .i64 g'.kind)).setCell ⟨b, 3, none⟩ (.slice g'.cl g'.clL g'.clC)) b g' := by
  obtain ⟨q0, q1, q2, q3⟩ := h.got
  refine ⟨by simpa using h.lt, ?_⟩
  unfold Ac.at
  simp [cell_set, q0, q1, q2, q3]
theorem Un.Bx.setFar {w : World} {b : Nat} {g : Un} (h : Un.Bx w b g) {p : Addr} (hp : p.block ≠ b) (v : Value) : Un.Bx (w.setCell p v) b g := by
  refine ⟨by simpa using h.lt, ?_, ?_⟩
  · refine Un.at_keep h.at_ fun i => ?_
    rw [World.cell?_setCell_other _ _ _ _ (fun e => hp (by rw [e]))]
  · rw [← h.hp]
    unfold World.setCell
    simp [Array.getElem?_modify, hp]
set_option maxHeartbeats 1000000 in
set_option maxRecDepth 100000 in
theorem short15_any (id mem kind : Int) (A : Option Addr) (cap : Nat) (L : List Nt) (w : World) (hc : L.length ≤ cap) (hcm : cap ≤ maxLen) (hs : Sl w A (rc Nt.cells L)) :
    Calls Try.prog 14 #[.agg #[.int .i64 id, .int .i64 mem, .int .i64 kind, .slice A L.length cap]] w fun e w' => e = .returned (.agg #[.int .i64 id, .int .i64 mem, .int .i64 kind, .slice A (L.take 20).length cap]) ∧ Below w.heap.size w w' := by
  have hB : ∀ n, Below w.heap.size w ((w.alloc (.cells #[.int .i64 id, .int .i64 mem, .int .i64 kind, .slice A n cap] 24)).alloc (.cells #[.int .i64 id, .int .i64 mem, .int .i64 kind, .slice A n cap] 24)) := fun n => since_alloc (since_alloc (Below.refl _ w) _) _
  unfold maxLen at hcm
  by_cases h : 20 < L.length
  · have hl : (L.take 20).length = 20 := by simp; omega
    rw [hl]
    have h40 : 20 ≤ cap := by omega
    have hi : (20 : Int) < (L.length : Int) := by omega
    cases A with
    | none => obtain ⟨b, o, e, _⟩ := hs.nt (k := 0) (by omega); cases e
    | some ad =>
      go_enter Try.func14, Try.ntmps14
      go_wp2
      refine bodyPost_ret (v := .agg #[.int .i64 id, .int .i64 mem, .int .i64 kind, .slice (some ad) 20 cap]) ?_ rfl ⟨rfl, ?_⟩
      · simp [results, Try.results14, go_sem]
      · exact hB 20
  · have hl : (L.take 20).length = L.length := by simp; omega
    rw [hl]
    have hi : ¬ (20 : Int) < (L.length : Int) := by omega
    go_enter Try.func14, Try.ntmps14
    go_wp2
    refine bodyPost_ret (v := .agg #[.int .i64 id, .int .i64 mem, .int .i64 kind, .slice A L.length cap]) ?_ rfl ⟨rfl, ?_⟩
    · simp [results, Try.results14, go_sem]
    · exact hB L.length
theorem okC_3 : okC 2 1 2 [⟨3⟩] := by
  refine ⟨by decide, by decide, by decide, by decide, by decide, by decide, by decide, by decide, ?_, by decide⟩
  intro j h
  have : j = 0 := by simp at h; omega
  subst this
  simp [isCl]
theorem okC_37 : okC 2 1 2 [⟨3⟩, ⟨7⟩] := by
  refine ⟨by decide, by decide, by decide, by decide, by decide, by decide, by decide, by decide, ?_, by decide⟩
  intro j h
  have : j = 0 ∨ j = 1 := by simp at h; omega
  rcases this with rfl | rfl <;> simp [isCl]
theorem bindE_3 : bindE 2 1 2 [⟨3⟩] 7 = 0 := by
  rw [bindE, if_neg (fun h => h okC_3), if_neg (by decide), if_neg (by decide), if_neg (by decide), if_neg (by decide)]
theorem BindRes.zero {B : Nat} {w' : World} {e : Ending} {id mem kind E : Int} {L : List Nt} (h : BindRes B w' e id mem kind E L) (hE : E ≠ 0) : e = .returned (.tuple #[.agg #[.int .i64 0, .int .i64 0, .int .i64 0, .slice none 0 0], .int .i64 E]) := by
  rcases h with ⟨_, h⟩ | ⟨h, _⟩
  · exact h
  · exact absurd h hE
theorem BindRes.some {B : Nat} {w' : World} {e : Ending} {id mem kind : Int} {L : List Nt} (h : BindRes B w' e id mem kind 0 L) : ∃ A' c', e = .returned (.tuple #[.agg #[.int .i64 id, .int .i64 mem, .int .i64 kind, .slice A' L.length c'], .int .i64 0]) ∧ w'.ownsRow B 3 1 (.slice A' L.length c') L.length (rc Nt.cells L) := by
  rcases h with ⟨h, _⟩ | ⟨_, h⟩
  · exact absurd rfl h
  · exact h
set_option maxHeartbeats 4000000 in
set_option maxRecDepth 100000 in
theorem lives15_any (w : World) : Calls Try.prog 25 #[] w fun e w' => e = .returned (.bool true) ∧ Below w.heap.size w w' := by
  have hB := since_alloc (Below.refl _ w) (.cells #[.int .i64 3] 3)
  have hs : Sl (w.alloc (.cells #[.int .i64 3] 3)) (some ⟨w.heap.size, 0, none⟩) (rc Nt.cells [⟨3⟩]) := Sl.new_ w [.int .i64 3] 3
  have H1 : Hid (inR [⟨3⟩] 7 = [⟨3⟩, ⟨7⟩]) := Lib.hid (by decide)
  have H2 : Hid (hasU 2 2 [⟨3⟩, ⟨7⟩] ⟨2, 7⟩ = true) := Lib.hid (by decide)
  have H3 : Hid ((unL 2 2 [⟨3⟩, ⟨7⟩]).length = 2) := Lib.hid (by decide)
  have HBD := bind_any 2 1 2 (some ⟨w.heap.size, 0, none⟩) 1 [⟨3⟩] 7 _ (by decide) hs
  rw [bindE_3, H1.out] at HBD
  simp only [List.length_singleton] at HBD
  have HBD := Lib.hid (HBD.mono fun _ _ h => And.intro h.1.some h.2)
  have HHS := Lib.hid (fun A c V h => hasA_any 2 1 2 A c [⟨3⟩, ⟨7⟩] ⟨2, 7⟩ V (by decide) h)
  have HUN := Lib.hid (fun A c V h => units_any 2 1 2 A c [⟨3⟩, ⟨7⟩] V (by decide) h)
  have HCK := Lib.hid (fun A c V h => check_any 2 1 2 A c [⟨3⟩, ⟨7⟩] V (by decide) h)
  rw [chk_ok okC_37] at HCK
  unfold Un.val at HHS
  simp only [List.length_cons, List.length_nil, Nat.zero_add, Nat.reduceAdd] at HHS HUN HCK HBD
  go_enter Try.func25, Try.ntmps25
  go_wp2_with fail
  refine HBD.out.mono ?_
  rintro e w1 ⟨⟨A1, c1, rfl, hown⟩, hb1⟩
  have hB := since_step hB hb1
  have hS := Sl.of_own hown
  clear hb1 hown hs
  go_wp2_with fail
  have hP := Aq.new w1 ⟨2, 1, 2, A1, 2, c1⟩
  have hA := (Below.refl w1.heap.size w1).alloc (Nat.le_refl _) (.cells #[.int .i64 2, .int .i64 1, .int .i64 2, .slice A1 2 c1] 24)
  have hS := hS.below hA
  have hB := since_step hB hA
  clear hA
  refine (HHS.out A1 c1 _ hS).mono ?_
  rw [H2.out]
  rintro e z1 ⟨rfl, hb⟩
  have hB := since_step hB hb
  have hS := hS.below hb
  have hP := hP.below hb
  clear hb
  obtain ⟨hP_0, hP_1, hP_2, hP_3⟩ := hP.got
  have hP_l := hP.lt
  go_wp2_with fail
  refine (HUN.out A1 c1 _ hS).mono ?_
  rintro e z2 ⟨⟨A2, c2, rfl, hown⟩, hb⟩
  have hB := since_step hB hb
  have hS := hS.below hb
  have hP := hP.below hb
  clear hb
  clear hP_0 hP_1 hP_2 hP_3 hP_l
  clear hown
  try rw [H3.out]
  obtain ⟨hP_0, hP_1, hP_2, hP_3⟩ := hP.got
  have hP_l := hP.lt
  go_wp2_with fail
  refine (HCK.out A1 c1 _ hS).mono ?_
  rintro e z3 ⟨rfl, hb⟩
  have hB := since_step hB hb
  have hS := hS.below hb
  have hP := hP.below hb
  clear hb
  clear hP_0 hP_1 hP_2 hP_3 hP_l
  obtain ⟨hP_0, hP_1, hP_2, hP_3⟩ := hP.got
  have hP_l := hP.lt
  go_wp2_with fail
  go_ret
  exact ⟨rfl, hB⟩

theorem rd_acct {w : World} {a : Array Value} (h : Rd w (.cat (.int .i64) (.cat (.int .i64) (.cat (.int .i64) (.cat (.sl (.int .i64)) .nil)))) a.toList) :
    ∃ (id mem kind : Int) (A : Option Addr) (cap : Nat) (L : List Nt), a = #[.int .i64 id, .int .i64 mem, .int .i64 kind, .slice A L.length cap] ∧ L.length ≤ cap ∧ cap ≤ maxLen ∧ Sl w A (rc Nt.cells L) := by
  obtain ⟨p, q, e, ⟨id, rfl, _⟩, ⟨p2, q2, rfl, ⟨mem, rfl, _⟩, ⟨p3, q3, rfl, ⟨kind, rfl, _⟩, ⟨p4, q4, rfl, h4, rfl⟩⟩⟩⟩ := h
  obtain ⟨A, n, c, rows, rfl, h1, h2, h3, h5, h6⟩ := _root_.id h4
  obtain ⟨l, rfl, _, _, hs⟩ := rd_ints (w := w) (k := .i64) (A := A) (n := n) (c := c) h4
  refine ⟨id, mem, kind, A, c, l.map Nt.mk, ?_, by simpa using h1, h2, ?_⟩
  · cases a
    simpa using e
  · have e2 : ∀ l : List Int, rc Nt.cells (l.map Nt.mk) = ints .i64 l := by
      intro l
      induction l with
      | nil => rfl
      | cons x l ih => rw [List.map_cons, rc_cons, ih]; rfl
    rw [e2]; exact hs.1

set_option maxHeartbeats 16000000 in
set_option maxRecDepth 100000 in
theorem walk_AcctBinds (a0 : Array Value) (a1 : Int) (a2 : Array Value) (w : World) (w0 : Rd w (.cat (.int .i64) (.cat (.int .i64) (.cat (.int .i64) (.cat (.sl (.int .i64)) .nil)))) a0.toList) (w1 : (Lit.int .i64 a1).wf = true) (w2 : Rd w (.cat (.int .i64) (.cat (.int .i64) .nil)) a2.toList) :
    Calls Try.prog 3 #[.agg a0, .int .i64 a1, .agg a2] w fun e w' => e = .returned (.bool true) ∧ Below w.heap.size w w' := by
  obtain ⟨id, mem, kind, A, cap, L0, rfl, hc, hcm, hs⟩ := rd_acct w0
  obtain ⟨ua, uc, rfl⟩ := rd_two w2
  clear w0 w1 w2
  have hB0 := since_alloc (since_alloc (Below.refl _ w) (.cells #[.int .i64 id, .int .i64 mem, .int .i64 kind, .slice A L0.length cap] 24)) (.cells #[.int .i64 ua, .int .i64 uc] 26)
  have hV0 : Aq ((w.alloc (.cells #[.int .i64 id, .int .i64 mem, .int .i64 kind, .slice A L0.length cap] 24)).alloc (.cells #[.int .i64 ua, .int .i64 uc] 26)) w.heap.size ⟨id, mem, kind, A, L0.length, cap⟩ := (Aq.new w ⟨id, mem, kind, A, L0.length, cap⟩).below ((Below.refl _ _).alloc (Nat.le_refl _) (.cells #[.int .i64 ua, .int .i64 uc] 26))
  have hf0 : ∀ i, ((w.alloc (.cells #[.int .i64 id, .int .i64 mem, .int .i64 kind, .slice A L0.length cap] 24)).alloc (.cells #[.int .i64 ua, .int .i64 uc] 26)).frozen? ⟨w.heap.size, i, none⟩ = false := fun i => by simp
  have hU0 : Un.Bx ((w.alloc (.cells #[.int .i64 id, .int .i64 mem, .int .i64 kind, .slice A L0.length cap] 24)).alloc (.cells #[.int .i64 ua, .int .i64 uc] 26)) (w.heap.size + 1) ⟨ua, uc⟩ := by have h := Un.Bx.new (w.alloc (.cells #[.int .i64 id, .int .i64 mem, .int .i64 kind, .slice A L0.length cap] 24)) ⟨ua, uc⟩; rw [World.size_alloc] at h; exact h
  have HSH := Lib.hid (fun V h => short15_any id mem kind A cap L0 V hc hcm h)
  obtain ⟨L, hL⟩ : ∃ L, L0.take 20 = L := ⟨_, rfl⟩
  have hl : L.length ≤ 20 := by rw [← hL]; simp; omega
  have HSL : Hid (∀ V, Sl V A (rc Nt.cells L0) → Sl V A (rc Nt.cells L)) := Lib.hid fun V h => by
    have h := h.take (20 * 1)
    rw [rc_take Nt.len, hL] at h
    exact h
  rw [hL] at HSH
  clear hL
  go_enter Try.func3, Try.ntmps3
  go_upto_region 1 with fail
  generalize hWW : (w.alloc (.cells #[.int .i64 id, .int .i64 mem, .int .i64 kind, .slice A L0.length cap] 24)).alloc (.cells #[.int .i64 ua, .int .i64 uc] 26) = W0 at *
  clear hWW
  obtain ⟨q0, q1, q2, q3⟩ := hV0.got
  simp only at q0 q1 q2 q3
  have hlw := hV0.lt
  go_wp2_with fail
  refine (HSH.out _ (hs.below hB0)).mono ?_
  rintro e w1 ⟨rfl, hb1⟩
  have hB1 := since_step hB0 hb1
  have hV1 := hV0.below hb1
  have hU1 := hU0.below hb1
  have hf1 : ∀ i, w1.frozen? ⟨w.heap.size, i, none⟩ = false := fun i => by rw [hb1.frozen (p := ⟨w.heap.size, i, none⟩) hlw]; exact hf0 i
  clear q0 q1 q2 q3 hb1 hf0 hV0 hU0 HSH
  obtain ⟨q0, q1, q2, q3⟩ := hV1.got
  simp only at q0 q1 q2 q3
  have hlw1 := hV1.lt
  have hV := hV1.set4 ⟨id, mem, kind, A, L.length, cap⟩
  have hU := (((hU1.setFar (p := ⟨w.heap.size, 0, none⟩) (by show w.heap.size ≠ _; omega) (.int .i64 id)).setFar (p := ⟨w.heap.size, 1, none⟩) (by show w.heap.size ≠ _; omega) (.int .i64 mem)).setFar (p := ⟨w.heap.size, 2, none⟩) (by show w.heap.size ≠ _; omega) (.int .i64 kind)).setFar (p := ⟨w.heap.size, 3, none⟩) (by show w.heap.size ≠ _; omega) (.slice A L.length cap)
  have hB := Below.setCell (Below.setCell (Below.setCell (Below.setCell hB1 (p := ⟨w.heap.size, 0, none⟩) (Nat.le_refl _) (.int .i64 id)) (p := ⟨w.heap.size, 1, none⟩) (Nat.le_refl _) (.int .i64 mem)) (p := ⟨w.heap.size, 2, none⟩) (Nat.le_refl _) (.int .i64 kind)) (p := ⟨w.heap.size, 3, none⟩) (Nat.le_refl _) (.slice A L.length cap)
  have hS := HSL.out _ (hs.below hB)
  simp only at hV
  go_upto_region 2 with fail
  generalize hWW : (((w1.setCell ⟨w.heap.size, 0, none⟩ (.int .i64 id)).setCell ⟨w.heap.size, 1, none⟩ (.int .i64 mem)).setCell ⟨w.heap.size, 2, none⟩ (.int .i64 kind)).setCell ⟨w.heap.size, 3, none⟩ (.slice A L.length cap) = W at *
  clear hWW q0 q1 q2 q3 hf1 hV1 hU1 hB1 hs hB0 HSL
  have HV : Hid (∀ V, Below W.heap.size W V → Aq V w.heap.size ⟨id, mem, kind, A, L.length, cap⟩) := Lib.hid fun V hV' => hV.below hV'
  have HU : Hid (∀ V, Below W.heap.size W V → Un.Bx V (w.heap.size + 1) ⟨ua, uc⟩) := Lib.hid fun V hV' => hU.below hV'
  have HS : Hid (∀ V, Below W.heap.size W V → Sl V A (rc Nt.cells L)) := Lib.hid fun V hV' => hS.below hV'
  have HCK := Lib.hid (fun V h => check_any id mem kind A cap L V (by omega) h)
  have HIS := Lib.hid (fun V h => ris_any id mem kind A cap L V (by omega) h)
  have HU1 := Lib.hid (fun V h => units_any id mem kind A cap L V (by omega) h)
  have HU2 := Lib.hid (fun V h => runits_any id mem kind A cap L V (by omega) h)
  have HH1 := Lib.hid (fun V h => hasA_any id mem kind A cap L ⟨ua, uc⟩ V (by omega) h)
  have HH2 := Lib.hid (fun V h => rhas_any id mem kind A cap L ⟨ua, uc⟩ V (by omega) h)
  have HB1 := Lib.hid (fun V h => bind_any id mem kind A cap L a1 V (by omega) h)
  have HB2 := Lib.hid (fun V h => rbind_any id mem kind A cap L a1 V (by omega) h)
  unfold Un.val at HH1 HH2
  simp only at HH1 HH2
  have hul := unL_len id kind L
  have HSU := Lib.hid (fun A1 A2 c1 c2 V h1 h2 => usame_any_self A1 A2 c1 c2 (unL id kind L) V (by omega) h1 h2)
  generalize unL id kind L = ul at *
  generalize hasU id kind L ⟨ua, uc⟩ = hu at *
  have hnh : (hu != hu) = false := by simp
  have hcs : (Hid (chkE id mem kind L = 0) ∧ Hid (isE id mem kind L = true)) ∨ (Hid (chkE id mem kind L = 2) ∧ Hid (isE id mem kind L = false)) := by
    by_cases hok : okC id mem kind L
    · exact .inl ⟨Lib.hid (chk_ok hok), Lib.hid (is_ok hok)⟩
    · exact .inr ⟨Lib.hid (chk_bad hok), Lib.hid (is_bad hok)⟩
  have hm := length_putR (ah := ahN) ⟨a1⟩ L
  obtain ⟨M, hM⟩ : ∃ M, inR L a1 = M := ⟨_, rfl⟩
  have hMl : M.length ≤ 1000000 := by rw [← hM]; unfold inR; omega
  rw [hM] at HB1 HB2
  clear hM hm hul hU hS hV
  obtain ⟨E, hE⟩ : ∃ E, bindE id mem kind L a1 = E := ⟨_, rfl⟩
  rw [hE] at HB1 HB2
  clear hE
  rcases hcs with ⟨HCE, HIE⟩ | ⟨HCE, HIE⟩
  · by_cases hE0 : E = 0
    · subst hE0
      have HB1 := Lib.hid (fun V h => (HB1.out V h).mono fun _ _ h => And.intro h.1.some h.2)
      have HB2 := Lib.hid (fun V h => (HB2.out V h).mono fun _ _ h => And.intro h.1.some h.2)
      have HS1 := Lib.hid (fun A1 A2 c1 c2 V h1 h2 => sameone_self id mem kind A1 A2 c1 c2 M V hMl h1 h2)
      go_wp2_with fail
      refine wp_region_held_drew (S := (fun V => Below W.heap.size W V)) (by kernel_rfl) (by exact (Below.refl _ _).drew) (fun hHeld => ?_)
      refine wpAnyH_take (i := 0) (oi := { dst := some 13, op := _, type := _, pos := _, after := _, guard := _ }) (v := ?_) rfl (by kernel_rfl) (by kernel_rfl) (by kernel_rfl) (fun _ _ _ h => h) (Or.inl ⟨by rfl, ?_⟩) hHeld ?_
      rotate_left
      · (intro w hSw; obtain ⟨q0, q1, q2, q3⟩ := (HV.out _ hSw).got; simp only at q0 q1 q2 q3; obtain ⟨u0, u1⟩ := (HU.out _ hSw).got; go_simp <;> with_reducible rfl)
      try simp only [Act.put, List.setIfInBounds_toArray, List.set_cons_zero, List.set_cons_succ]
      refine wpAnyH_take (i := 3) (oi := { dst := some 16, op := _, type := _, pos := _, after := _, guard := _ }) (v := ?_) rfl (by kernel_rfl) (by kernel_rfl) (by kernel_rfl) (fun _ _ _ h => h) (Or.inl ⟨by rfl, ?_⟩) hHeld ?_
      rotate_left
      · (intro w hSw; obtain ⟨q0, q1, q2, q3⟩ := (HV.out _ hSw).got; simp only at q0 q1 q2 q3; obtain ⟨u0, u1⟩ := (HU.out _ hSw).got; go_simp <;> with_reducible rfl)
      try simp only [Act.put, List.setIfInBounds_toArray, List.set_cons_zero, List.set_cons_succ]
      refine wpAnyH_ready (rs := [1]) (by kernel_rfl) (by simp) ?_
      refine AllReadyH.cons (o := { dst := some 14, op := _, type := _, pos := _, after := _, guard := _ }) rfl (fun K hK => ?_) AllReadyH.nil
      go_simp
      refine (HCK.out _ (HS.out _ hHeld)).mono ?_
      rw [HCE.out]
      rintro e r1 ⟨rfl, hk1⟩
      have hKeep := since_step hHeld hk1
      go_wp2_with fail
      refine hK.out _ _ (by (try dsimp only); exact hKeep) (fun hHeld => ?_)
      clear hK K hKeep
      try simp only [Act.put, List.setIfInBounds_toArray, List.set_cons_zero, List.set_cons_succ]
      refine wpAnyH_take (i := 2) (oi := { dst := some 15, op := _, type := _, pos := _, after := _, guard := _ }) (v := ?_) rfl (by kernel_rfl) (by kernel_rfl) (by kernel_rfl) (fun _ _ _ h => h) (Or.inl ⟨by rfl, ?_⟩) hHeld ?_
      rotate_left
      · (intro w hSw; obtain ⟨q0, q1, q2, q3⟩ := (HV.out _ hSw).got; simp only at q0 q1 q2 q3; obtain ⟨u0, u1⟩ := (HU.out _ hSw).got; go_simp <;> with_reducible rfl)
      try simp only [Act.put, List.setIfInBounds_toArray, List.set_cons_zero, List.set_cons_succ]
      refine wpAnyH_ready (rs := [4]) (by kernel_rfl) (by simp) ?_
      refine AllReadyH.cons (o := { dst := some 17, op := _, type := _, pos := _, after := _, guard := _ }) rfl (fun K hK => ?_) AllReadyH.nil
      go_simp
      refine (HIS.out _ (HS.out _ hHeld)).mono ?_
      rw [HIE.out]
      rintro e r2 ⟨rfl, hk2⟩
      have hKeep := since_step hHeld hk2
      go_wp2_with fail
      refine hK.out _ _ (by (try dsimp only); exact hKeep) (fun hHeld => ?_)
      clear hK K hKeep
      try simp only [Act.put, List.setIfInBounds_toArray, List.set_cons_zero, List.set_cons_succ]
      refine wpAnyH_take (i := 5) (oi := { dst := some 18, op := _, type := _, pos := _, after := _, guard := _ }) (v := ?_) rfl (by kernel_rfl) (by kernel_rfl) (by kernel_rfl) (fun _ _ _ h => h) (Or.inl ⟨by rfl, ?_⟩) hHeld ?_
      rotate_left
      · (intro w hSw; obtain ⟨q0, q1, q2, q3⟩ := (HV.out _ hSw).got; simp only at q0 q1 q2 q3; obtain ⟨u0, u1⟩ := (HU.out _ hSw).got; go_simp <;> with_reducible rfl)
      try simp only [Act.put, List.setIfInBounds_toArray, List.set_cons_zero, List.set_cons_succ]
      refine wpAnyH_take (i := 6) (oi := { dst := some 19, op := _, type := _, pos := _, after := _, guard := _ }) (v := ?_) rfl (by kernel_rfl) (by kernel_rfl) (by kernel_rfl) (fun _ _ _ h => h) (Or.inl ⟨by rfl, ?_⟩) hHeld ?_
      rotate_left
      · (intro w hSw; obtain ⟨q0, q1, q2, q3⟩ := (HV.out _ hSw).got; simp only at q0 q1 q2 q3; obtain ⟨u0, u1⟩ := (HU.out _ hSw).got; go_simp <;> with_reducible rfl)
      try simp only [Act.put, List.setIfInBounds_toArray, List.set_cons_zero, List.set_cons_succ]
      refine wpAnyH_take (i := 7) (oi := { dst := some 20, op := _, type := _, pos := _, after := _, guard := _ }) (v := ?_) rfl (by kernel_rfl) (by kernel_rfl) (by kernel_rfl) (fun _ _ _ h => h) (Or.inl ⟨by rfl, ?_⟩) hHeld ?_
      rotate_left
      · (intro w hSw; obtain ⟨q0, q1, q2, q3⟩ := (HV.out _ hSw).got; simp only at q0 q1 q2 q3; obtain ⟨u0, u1⟩ := (HU.out _ hSw).got; go_simp <;> with_reducible rfl)
      try simp only [Act.put, List.setIfInBounds_toArray, List.set_cons_zero, List.set_cons_succ]
      refine wpAnyH_take (i := 9) (oi := { dst := some 22, op := _, type := _, pos := _, after := _, guard := _ }) (v := ?_) rfl (by kernel_rfl) (by kernel_rfl) (by kernel_rfl) (fun _ _ _ h => h) (Or.inl ⟨by rfl, ?_⟩) hHeld ?_
      rotate_left
      · (intro w hSw; obtain ⟨q0, q1, q2, q3⟩ := (HV.out _ hSw).got; simp only at q0 q1 q2 q3; obtain ⟨u0, u1⟩ := (HU.out _ hSw).got; go_simp <;> with_reducible rfl)
      try simp only [Act.put, List.setIfInBounds_toArray, List.set_cons_zero, List.set_cons_succ]
      refine wpAnyH_ready (rs := [8]) (by kernel_rfl) (by simp) ?_
      refine AllReadyH.cons (o := { dst := some 21, op := _, type := _, pos := _, after := _, guard := _ }) rfl (fun K hK => ?_) AllReadyH.nil
      go_simp
      refine (HU1.out _ (HS.out _ hHeld)).mono ?_
      rintro e r3 ⟨⟨A1, c1, rfl, hown1⟩, hk3⟩
      have hKeep := since_step hHeld hk3
      have hR1 := Sl.of_own hown1
      go_wp2_with fail
      refine hK.out _ _ (by (try dsimp only); exact hKeep) (fun hHeld => ?_)
      clear hK K hKeep
      try simp only [Act.put, List.setIfInBounds_toArray, List.set_cons_zero, List.set_cons_succ]
      refine wpAnyH_ready (rs := [10]) (by kernel_rfl) (by simp) ?_
      refine AllReadyH.cons (o := { dst := some 23, op := _, type := _, pos := _, after := _, guard := _ }) rfl (fun K hK => ?_) AllReadyH.nil
      go_simp
      refine (HU2.out _ (HS.out _ hHeld)).mono ?_
      rintro e r4 ⟨⟨A2, c2, rfl, hown2⟩, hk4⟩
      have hKeep := since_step hHeld hk4
      have hR2 := Sl.of_own hown2
      have hR1 := hR1.below hk4
      go_wp2_with fail
      refine hK.out _ _ (by (try dsimp only); exact hKeep) (fun hHeld => ?_)
      clear hK K hKeep
      try simp only [Act.put, List.setIfInBounds_toArray, List.set_cons_zero, List.set_cons_succ]
      refine wpAnyH_ready (rs := [11]) (by kernel_rfl) (by simp) ?_
      refine AllReadyH.cons (o := { dst := some 24, op := _, type := _, pos := _, after := _, guard := _ }) rfl (fun K hK => ?_) AllReadyH.nil
      go_simp
      refine (HSU.out _ _ _ _ _ hR1 hR2).mono ?_
      rintro e r5 ⟨rfl, hk5⟩
      have hKeep := since_step hHeld hk5
      go_wp2_with fail
      refine hK.out _ _ (by (try dsimp only); exact hKeep) (fun hHeld => ?_)
      clear hK K hKeep
      try simp only [Act.put, List.setIfInBounds_toArray, List.set_cons_zero, List.set_cons_succ]
      refine wpAnyH_take (i := 12) (oi := { dst := some 25, op := _, type := _, pos := _, after := _, guard := _ }) (v := ?_) rfl (by kernel_rfl) (by kernel_rfl) (by kernel_rfl) (fun _ _ _ h => h) (Or.inl ⟨by rfl, ?_⟩) hHeld ?_
      rotate_left
      · (intro w hSw; obtain ⟨q0, q1, q2, q3⟩ := (HV.out _ hSw).got; simp only at q0 q1 q2 q3; obtain ⟨u0, u1⟩ := (HU.out _ hSw).got; go_simp <;> with_reducible rfl)
      try simp only [Act.put, List.setIfInBounds_toArray, List.set_cons_zero, List.set_cons_succ]
      refine wpAnyH_take (i := 13) (oi := { dst := some 26, op := _, type := _, pos := _, after := _, guard := _ }) (v := ?_) rfl (by kernel_rfl) (by kernel_rfl) (by kernel_rfl) (fun _ _ _ h => h) (Or.inl ⟨by rfl, ?_⟩) hHeld ?_
      rotate_left
      · (intro w hSw; obtain ⟨q0, q1, q2, q3⟩ := (HV.out _ hSw).got; simp only at q0 q1 q2 q3; obtain ⟨u0, u1⟩ := (HU.out _ hSw).got; go_simp <;> with_reducible rfl)
      try simp only [Act.put, List.setIfInBounds_toArray, List.set_cons_zero, List.set_cons_succ]
      refine wpAnyH_take (i := 14) (oi := { dst := some 27, op := _, type := _, pos := _, after := _, guard := _ }) (v := ?_) rfl (by kernel_rfl) (by kernel_rfl) (by kernel_rfl) (fun _ _ _ h => h) (Or.inl ⟨by rfl, ?_⟩) hHeld ?_
      rotate_left
      · (intro w hSw; obtain ⟨q0, q1, q2, q3⟩ := (HV.out _ hSw).got; simp only at q0 q1 q2 q3; obtain ⟨u0, u1⟩ := (HU.out _ hSw).got; go_simp <;> with_reducible rfl)
      try simp only [Act.put, List.setIfInBounds_toArray, List.set_cons_zero, List.set_cons_succ]
      refine wpAnyH_take (i := 15) (oi := { dst := some 28, op := _, type := _, pos := _, after := _, guard := _ }) (v := ?_) rfl (by kernel_rfl) (by kernel_rfl) (by kernel_rfl) (fun _ _ _ h => h) (Or.inl ⟨by rfl, ?_⟩) hHeld ?_
      rotate_left
      · (intro w hSw; obtain ⟨q0, q1, q2, q3⟩ := (HV.out _ hSw).got; simp only at q0 q1 q2 q3; obtain ⟨u0, u1⟩ := (HU.out _ hSw).got; go_simp <;> with_reducible rfl)
      try simp only [Act.put, List.setIfInBounds_toArray, List.set_cons_zero, List.set_cons_succ]
      refine wpAnyH_take (i := 16) (oi := { dst := some 29, op := _, type := _, pos := _, after := _, guard := _ }) (v := ?_) rfl (by kernel_rfl) (by kernel_rfl) (by kernel_rfl) (fun _ _ _ h => h) (Or.inl ⟨by rfl, ?_⟩) hHeld ?_
      rotate_left
      · (intro w hSw; obtain ⟨q0, q1, q2, q3⟩ := (HV.out _ hSw).got; simp only at q0 q1 q2 q3; obtain ⟨u0, u1⟩ := (HU.out _ hSw).got; go_simp <;> with_reducible rfl)
      try simp only [Act.put, List.setIfInBounds_toArray, List.set_cons_zero, List.set_cons_succ]
      refine wpAnyH_take (i := 18) (oi := { dst := some 31, op := _, type := _, pos := _, after := _, guard := _ }) (v := ?_) rfl (by kernel_rfl) (by kernel_rfl) (by kernel_rfl) (fun _ _ _ h => h) (Or.inl ⟨by rfl, ?_⟩) hHeld ?_
      rotate_left
      · (intro w hSw; obtain ⟨q0, q1, q2, q3⟩ := (HV.out _ hSw).got; simp only at q0 q1 q2 q3; obtain ⟨u0, u1⟩ := (HU.out _ hSw).got; go_simp <;> with_reducible rfl)
      try simp only [Act.put, List.setIfInBounds_toArray, List.set_cons_zero, List.set_cons_succ]
      refine wpAnyH_take (i := 19) (oi := { dst := some 32, op := _, type := _, pos := _, after := _, guard := _ }) (v := ?_) rfl (by kernel_rfl) (by kernel_rfl) (by kernel_rfl) (fun _ _ _ h => h) (Or.inl ⟨by rfl, ?_⟩) hHeld ?_
      rotate_left
      · (intro w hSw; obtain ⟨q0, q1, q2, q3⟩ := (HV.out _ hSw).got; simp only at q0 q1 q2 q3; obtain ⟨u0, u1⟩ := (HU.out _ hSw).got; go_simp <;> with_reducible rfl)
      try simp only [Act.put, List.setIfInBounds_toArray, List.set_cons_zero, List.set_cons_succ]
      refine wpAnyH_ready (rs := [17]) (by kernel_rfl) (by simp) ?_
      refine AllReadyH.cons (o := { dst := some 30, op := _, type := _, pos := _, after := _, guard := _ }) rfl (fun K hK => ?_) AllReadyH.nil
      go_simp
      refine (HH1.out _ (HS.out _ hHeld)).mono ?_
      rintro e r6 ⟨rfl, hk6⟩
      have hKeep := since_step hHeld hk6
      go_wp2_with fail
      refine hK.out _ _ (by (try dsimp only); exact hKeep) (fun hHeld => ?_)
      clear hK K hKeep
      try simp only [Act.put, List.setIfInBounds_toArray, List.set_cons_zero, List.set_cons_succ]
      refine wpAnyH_ready (rs := [20]) (by kernel_rfl) (by simp) ?_
      refine AllReadyH.cons (o := { dst := some 33, op := _, type := _, pos := _, after := _, guard := _ }) rfl (fun K hK => ?_) AllReadyH.nil
      go_simp
      refine (HH2.out _ (HS.out _ hHeld)).mono ?_
      rintro e r7 ⟨rfl, hk7⟩
      have hKeep := since_step hHeld hk7
      go_wp2_with fail
      refine hK.out _ _ (by (try dsimp only); exact hKeep) (fun hHeld => ?_)
      clear hK K hKeep
      try simp only [Act.put, List.setIfInBounds_toArray, List.set_cons_zero, List.set_cons_succ]
      refine wpAnyH_take (i := 21) (oi := { dst := some 34, op := _, type := _, pos := _, after := _, guard := _ }) (v := ?_) rfl (by kernel_rfl) (by kernel_rfl) (by kernel_rfl) (fun _ _ _ h => h) (Or.inl ⟨by rfl, ?_⟩) hHeld ?_
      rotate_left
      · (intro w hSw; obtain ⟨q0, q1, q2, q3⟩ := (HV.out _ hSw).got; simp only at q0 q1 q2 q3; obtain ⟨u0, u1⟩ := (HU.out _ hSw).got; go_simp <;> with_reducible rfl)
      try simp only [Act.put, List.setIfInBounds_toArray, List.set_cons_zero, List.set_cons_succ]
      refine wpAnyH_take (i := 22) (oi := { dst := some 35, op := _, type := _, pos := _, after := _, guard := _ }) (v := ?_) rfl (by kernel_rfl) (by kernel_rfl) (by kernel_rfl) (fun _ _ _ h => h) (Or.inl ⟨by rfl, ?_⟩) hHeld ?_
      rotate_left
      · (intro w hSw; obtain ⟨q0, q1, q2, q3⟩ := (HV.out _ hSw).got; simp only at q0 q1 q2 q3; obtain ⟨u0, u1⟩ := (HU.out _ hSw).got; go_simp <;> with_reducible rfl)
      try simp only [Act.put, List.setIfInBounds_toArray, List.set_cons_zero, List.set_cons_succ]
      refine wpAnyH_done (by kernel_rfl) ?_ _
      have hV := HV.out _ hHeld
      have hS := HS.out _ hHeld
      have hB := hB.trans (hHeld.mono hB.size)
      skip
      obtain ⟨hV_0, hV_1, hV_2, hV_3⟩ := hV.got
      have hV_l := hV.lt
      go_wp2_with fail
      refine (HB1.out _ hS).mono ?_
      rintro e z1 ⟨⟨A3, c3, rfl, hown⟩, hb⟩
      have hB := since_step hB hb
      have hV := hV.below hb
      have hS := hS.below hb
      clear hb
      clear hV_0 hV_1 hV_2 hV_3 hV_l
      have hM := Sl.of_own hown
      clear hown
      obtain ⟨hV_0, hV_1, hV_2, hV_3⟩ := hV.got
      have hV_l := hV.lt
      go_wp2_with fail
      have hP := Aq.new z1 ⟨id, mem, kind, A3, M.length, c3⟩
      have hA := (Below.refl z1.heap.size z1).alloc (Nat.le_refl _) (.cells #[.int .i64 id, .int .i64 mem, .int .i64 kind, .slice A3 M.length c3] 24)
      have hV := hV.below hA
      have hS := hS.below hA
      have hM := hM.below hA
      have hB := since_step hB hA
      clear hA
      refine (HB2.out _ hS).mono ?_
      rintro e z2 ⟨⟨A4, c4, rfl, hown⟩, hb⟩
      have hB := since_step hB hb
      have hV := hV.below hb
      have hS := hS.below hb
      have hM := hM.below hb
      have hP := hP.below hb
      clear hb
      clear hV_0 hV_1 hV_2 hV_3 hV_l
      have hK := Sl.of_own hown
      clear hown
      clear hV hS
      obtain ⟨hP_0, hP_1, hP_2, hP_3⟩ := hP.got
      have hP_l := hP.lt
      go_wp2_with fail
      have hQ := Aq.new z2 ⟨id, mem, kind, A4, M.length, c4⟩
      have hA := (Below.refl z2.heap.size z2).alloc (Nat.le_refl _) (.cells #[.int .i64 id, .int .i64 mem, .int .i64 kind, .slice A4 M.length c4] 24)
      have hM := hM.below hA
      have hP := hP.below hA
      have hK := hK.below hA
      have hB := since_step hB hA
      clear hA
      refine (HS1.out A3 A4 c3 c4 _ hM hK).mono ?_
      rintro e z3 ⟨rfl, hb⟩
      have hB := since_step hB hb
      have hM := hM.below hb
      have hP := hP.below hb
      have hK := hK.below hb
      have hQ := hQ.below hb
      clear hb
      clear hP_0 hP_1 hP_2 hP_3 hP_l
      go_wp2_with fail
      refine (lives15_any _).mono ?_
      rintro e z4 ⟨rfl, hb⟩
      have hB := since_step hB hb
      clear hb
      go_wp2_with fail
      go_ret
      exact ⟨rfl, hB⟩
    · have HB1 := Lib.hid (fun V h => (HB1.out V h).mono fun _ _ h => And.intro (h.1.zero hE0) h.2)
      have HB2 := Lib.hid (fun V h => (HB2.out V h).mono fun _ _ h => And.intro (h.1.zero hE0) h.2)
      have HS1 := Lib.hid (fun V => sameone_self 0 0 0 none none 0 0 [] V (by decide) Sl.nil Sl.nil)
      have hEE : (E == E) = true := by simp
      clear hE0
      simp only [List.length_nil] at HS1
      go_wp2_with fail
      refine wp_region_held_drew (S := (fun V => Below W.heap.size W V)) (by kernel_rfl) (by exact (Below.refl _ _).drew) (fun hHeld => ?_)
      refine wpAnyH_take (i := 0) (oi := { dst := some 13, op := _, type := _, pos := _, after := _, guard := _ }) (v := ?_) rfl (by kernel_rfl) (by kernel_rfl) (by kernel_rfl) (fun _ _ _ h => h) (Or.inl ⟨by rfl, ?_⟩) hHeld ?_
      rotate_left
      · (intro w hSw; obtain ⟨q0, q1, q2, q3⟩ := (HV.out _ hSw).got; simp only at q0 q1 q2 q3; obtain ⟨u0, u1⟩ := (HU.out _ hSw).got; go_simp <;> with_reducible rfl)
      try simp only [Act.put, List.setIfInBounds_toArray, List.set_cons_zero, List.set_cons_succ]
      refine wpAnyH_take (i := 3) (oi := { dst := some 16, op := _, type := _, pos := _, after := _, guard := _ }) (v := ?_) rfl (by kernel_rfl) (by kernel_rfl) (by kernel_rfl) (fun _ _ _ h => h) (Or.inl ⟨by rfl, ?_⟩) hHeld ?_
      rotate_left
      · (intro w hSw; obtain ⟨q0, q1, q2, q3⟩ := (HV.out _ hSw).got; simp only at q0 q1 q2 q3; obtain ⟨u0, u1⟩ := (HU.out _ hSw).got; go_simp <;> with_reducible rfl)
      try simp only [Act.put, List.setIfInBounds_toArray, List.set_cons_zero, List.set_cons_succ]
      refine wpAnyH_ready (rs := [1]) (by kernel_rfl) (by simp) ?_
      refine AllReadyH.cons (o := { dst := some 14, op := _, type := _, pos := _, after := _, guard := _ }) rfl (fun K hK => ?_) AllReadyH.nil
      go_simp
      refine (HCK.out _ (HS.out _ hHeld)).mono ?_
      rw [HCE.out]
      rintro e r1 ⟨rfl, hk1⟩
      have hKeep := since_step hHeld hk1
      go_wp2_with fail
      refine hK.out _ _ (by (try dsimp only); exact hKeep) (fun hHeld => ?_)
      clear hK K hKeep
      try simp only [Act.put, List.setIfInBounds_toArray, List.set_cons_zero, List.set_cons_succ]
      refine wpAnyH_take (i := 2) (oi := { dst := some 15, op := _, type := _, pos := _, after := _, guard := _ }) (v := ?_) rfl (by kernel_rfl) (by kernel_rfl) (by kernel_rfl) (fun _ _ _ h => h) (Or.inl ⟨by rfl, ?_⟩) hHeld ?_
      rotate_left
      · (intro w hSw; obtain ⟨q0, q1, q2, q3⟩ := (HV.out _ hSw).got; simp only at q0 q1 q2 q3; obtain ⟨u0, u1⟩ := (HU.out _ hSw).got; go_simp <;> with_reducible rfl)
      try simp only [Act.put, List.setIfInBounds_toArray, List.set_cons_zero, List.set_cons_succ]
      refine wpAnyH_ready (rs := [4]) (by kernel_rfl) (by simp) ?_
      refine AllReadyH.cons (o := { dst := some 17, op := _, type := _, pos := _, after := _, guard := _ }) rfl (fun K hK => ?_) AllReadyH.nil
      go_simp
      refine (HIS.out _ (HS.out _ hHeld)).mono ?_
      rw [HIE.out]
      rintro e r2 ⟨rfl, hk2⟩
      have hKeep := since_step hHeld hk2
      go_wp2_with fail
      refine hK.out _ _ (by (try dsimp only); exact hKeep) (fun hHeld => ?_)
      clear hK K hKeep
      try simp only [Act.put, List.setIfInBounds_toArray, List.set_cons_zero, List.set_cons_succ]
      refine wpAnyH_take (i := 5) (oi := { dst := some 18, op := _, type := _, pos := _, after := _, guard := _ }) (v := ?_) rfl (by kernel_rfl) (by kernel_rfl) (by kernel_rfl) (fun _ _ _ h => h) (Or.inl ⟨by rfl, ?_⟩) hHeld ?_
      rotate_left
      · (intro w hSw; obtain ⟨q0, q1, q2, q3⟩ := (HV.out _ hSw).got; simp only at q0 q1 q2 q3; obtain ⟨u0, u1⟩ := (HU.out _ hSw).got; go_simp <;> with_reducible rfl)
      try simp only [Act.put, List.setIfInBounds_toArray, List.set_cons_zero, List.set_cons_succ]
      refine wpAnyH_take (i := 6) (oi := { dst := some 19, op := _, type := _, pos := _, after := _, guard := _ }) (v := ?_) rfl (by kernel_rfl) (by kernel_rfl) (by kernel_rfl) (fun _ _ _ h => h) (Or.inl ⟨by rfl, ?_⟩) hHeld ?_
      rotate_left
      · (intro w hSw; obtain ⟨q0, q1, q2, q3⟩ := (HV.out _ hSw).got; simp only at q0 q1 q2 q3; obtain ⟨u0, u1⟩ := (HU.out _ hSw).got; go_simp <;> with_reducible rfl)
      try simp only [Act.put, List.setIfInBounds_toArray, List.set_cons_zero, List.set_cons_succ]
      refine wpAnyH_take (i := 7) (oi := { dst := some 20, op := _, type := _, pos := _, after := _, guard := _ }) (v := ?_) rfl (by kernel_rfl) (by kernel_rfl) (by kernel_rfl) (fun _ _ _ h => h) (Or.inl ⟨by rfl, ?_⟩) hHeld ?_
      rotate_left
      · (intro w hSw; obtain ⟨q0, q1, q2, q3⟩ := (HV.out _ hSw).got; simp only at q0 q1 q2 q3; obtain ⟨u0, u1⟩ := (HU.out _ hSw).got; go_simp <;> with_reducible rfl)
      try simp only [Act.put, List.setIfInBounds_toArray, List.set_cons_zero, List.set_cons_succ]
      refine wpAnyH_take (i := 9) (oi := { dst := some 22, op := _, type := _, pos := _, after := _, guard := _ }) (v := ?_) rfl (by kernel_rfl) (by kernel_rfl) (by kernel_rfl) (fun _ _ _ h => h) (Or.inl ⟨by rfl, ?_⟩) hHeld ?_
      rotate_left
      · (intro w hSw; obtain ⟨q0, q1, q2, q3⟩ := (HV.out _ hSw).got; simp only at q0 q1 q2 q3; obtain ⟨u0, u1⟩ := (HU.out _ hSw).got; go_simp <;> with_reducible rfl)
      try simp only [Act.put, List.setIfInBounds_toArray, List.set_cons_zero, List.set_cons_succ]
      refine wpAnyH_ready (rs := [8]) (by kernel_rfl) (by simp) ?_
      refine AllReadyH.cons (o := { dst := some 21, op := _, type := _, pos := _, after := _, guard := _ }) rfl (fun K hK => ?_) AllReadyH.nil
      go_simp
      refine (HU1.out _ (HS.out _ hHeld)).mono ?_
      rintro e r3 ⟨⟨A1, c1, rfl, hown1⟩, hk3⟩
      have hKeep := since_step hHeld hk3
      have hR1 := Sl.of_own hown1
      go_wp2_with fail
      refine hK.out _ _ (by (try dsimp only); exact hKeep) (fun hHeld => ?_)
      clear hK K hKeep
      try simp only [Act.put, List.setIfInBounds_toArray, List.set_cons_zero, List.set_cons_succ]
      refine wpAnyH_ready (rs := [10]) (by kernel_rfl) (by simp) ?_
      refine AllReadyH.cons (o := { dst := some 23, op := _, type := _, pos := _, after := _, guard := _ }) rfl (fun K hK => ?_) AllReadyH.nil
      go_simp
      refine (HU2.out _ (HS.out _ hHeld)).mono ?_
      rintro e r4 ⟨⟨A2, c2, rfl, hown2⟩, hk4⟩
      have hKeep := since_step hHeld hk4
      have hR2 := Sl.of_own hown2
      have hR1 := hR1.below hk4
      go_wp2_with fail
      refine hK.out _ _ (by (try dsimp only); exact hKeep) (fun hHeld => ?_)
      clear hK K hKeep
      try simp only [Act.put, List.setIfInBounds_toArray, List.set_cons_zero, List.set_cons_succ]
      refine wpAnyH_ready (rs := [11]) (by kernel_rfl) (by simp) ?_
      refine AllReadyH.cons (o := { dst := some 24, op := _, type := _, pos := _, after := _, guard := _ }) rfl (fun K hK => ?_) AllReadyH.nil
      go_simp
      refine (HSU.out _ _ _ _ _ hR1 hR2).mono ?_
      rintro e r5 ⟨rfl, hk5⟩
      have hKeep := since_step hHeld hk5
      go_wp2_with fail
      refine hK.out _ _ (by (try dsimp only); exact hKeep) (fun hHeld => ?_)
      clear hK K hKeep
      try simp only [Act.put, List.setIfInBounds_toArray, List.set_cons_zero, List.set_cons_succ]
      refine wpAnyH_take (i := 12) (oi := { dst := some 25, op := _, type := _, pos := _, after := _, guard := _ }) (v := ?_) rfl (by kernel_rfl) (by kernel_rfl) (by kernel_rfl) (fun _ _ _ h => h) (Or.inl ⟨by rfl, ?_⟩) hHeld ?_
      rotate_left
      · (intro w hSw; obtain ⟨q0, q1, q2, q3⟩ := (HV.out _ hSw).got; simp only at q0 q1 q2 q3; obtain ⟨u0, u1⟩ := (HU.out _ hSw).got; go_simp <;> with_reducible rfl)
      try simp only [Act.put, List.setIfInBounds_toArray, List.set_cons_zero, List.set_cons_succ]
      refine wpAnyH_take (i := 13) (oi := { dst := some 26, op := _, type := _, pos := _, after := _, guard := _ }) (v := ?_) rfl (by kernel_rfl) (by kernel_rfl) (by kernel_rfl) (fun _ _ _ h => h) (Or.inl ⟨by rfl, ?_⟩) hHeld ?_
      rotate_left
      · (intro w hSw; obtain ⟨q0, q1, q2, q3⟩ := (HV.out _ hSw).got; simp only at q0 q1 q2 q3; obtain ⟨u0, u1⟩ := (HU.out _ hSw).got; go_simp <;> with_reducible rfl)
      try simp only [Act.put, List.setIfInBounds_toArray, List.set_cons_zero, List.set_cons_succ]
      refine wpAnyH_take (i := 14) (oi := { dst := some 27, op := _, type := _, pos := _, after := _, guard := _ }) (v := ?_) rfl (by kernel_rfl) (by kernel_rfl) (by kernel_rfl) (fun _ _ _ h => h) (Or.inl ⟨by rfl, ?_⟩) hHeld ?_
      rotate_left
      · (intro w hSw; obtain ⟨q0, q1, q2, q3⟩ := (HV.out _ hSw).got; simp only at q0 q1 q2 q3; obtain ⟨u0, u1⟩ := (HU.out _ hSw).got; go_simp <;> with_reducible rfl)
      try simp only [Act.put, List.setIfInBounds_toArray, List.set_cons_zero, List.set_cons_succ]
      refine wpAnyH_take (i := 15) (oi := { dst := some 28, op := _, type := _, pos := _, after := _, guard := _ }) (v := ?_) rfl (by kernel_rfl) (by kernel_rfl) (by kernel_rfl) (fun _ _ _ h => h) (Or.inl ⟨by rfl, ?_⟩) hHeld ?_
      rotate_left
      · (intro w hSw; obtain ⟨q0, q1, q2, q3⟩ := (HV.out _ hSw).got; simp only at q0 q1 q2 q3; obtain ⟨u0, u1⟩ := (HU.out _ hSw).got; go_simp <;> with_reducible rfl)
      try simp only [Act.put, List.setIfInBounds_toArray, List.set_cons_zero, List.set_cons_succ]
      refine wpAnyH_take (i := 16) (oi := { dst := some 29, op := _, type := _, pos := _, after := _, guard := _ }) (v := ?_) rfl (by kernel_rfl) (by kernel_rfl) (by kernel_rfl) (fun _ _ _ h => h) (Or.inl ⟨by rfl, ?_⟩) hHeld ?_
      rotate_left
      · (intro w hSw; obtain ⟨q0, q1, q2, q3⟩ := (HV.out _ hSw).got; simp only at q0 q1 q2 q3; obtain ⟨u0, u1⟩ := (HU.out _ hSw).got; go_simp <;> with_reducible rfl)
      try simp only [Act.put, List.setIfInBounds_toArray, List.set_cons_zero, List.set_cons_succ]
      refine wpAnyH_take (i := 18) (oi := { dst := some 31, op := _, type := _, pos := _, after := _, guard := _ }) (v := ?_) rfl (by kernel_rfl) (by kernel_rfl) (by kernel_rfl) (fun _ _ _ h => h) (Or.inl ⟨by rfl, ?_⟩) hHeld ?_
      rotate_left
      · (intro w hSw; obtain ⟨q0, q1, q2, q3⟩ := (HV.out _ hSw).got; simp only at q0 q1 q2 q3; obtain ⟨u0, u1⟩ := (HU.out _ hSw).got; go_simp <;> with_reducible rfl)
      try simp only [Act.put, List.setIfInBounds_toArray, List.set_cons_zero, List.set_cons_succ]
      refine wpAnyH_take (i := 19) (oi := { dst := some 32, op := _, type := _, pos := _, after := _, guard := _ }) (v := ?_) rfl (by kernel_rfl) (by kernel_rfl) (by kernel_rfl) (fun _ _ _ h => h) (Or.inl ⟨by rfl, ?_⟩) hHeld ?_
      rotate_left
      · (intro w hSw; obtain ⟨q0, q1, q2, q3⟩ := (HV.out _ hSw).got; simp only at q0 q1 q2 q3; obtain ⟨u0, u1⟩ := (HU.out _ hSw).got; go_simp <;> with_reducible rfl)
      try simp only [Act.put, List.setIfInBounds_toArray, List.set_cons_zero, List.set_cons_succ]
      refine wpAnyH_ready (rs := [17]) (by kernel_rfl) (by simp) ?_
      refine AllReadyH.cons (o := { dst := some 30, op := _, type := _, pos := _, after := _, guard := _ }) rfl (fun K hK => ?_) AllReadyH.nil
      go_simp
      refine (HH1.out _ (HS.out _ hHeld)).mono ?_
      rintro e r6 ⟨rfl, hk6⟩
      have hKeep := since_step hHeld hk6
      go_wp2_with fail
      refine hK.out _ _ (by (try dsimp only); exact hKeep) (fun hHeld => ?_)
      clear hK K hKeep
      try simp only [Act.put, List.setIfInBounds_toArray, List.set_cons_zero, List.set_cons_succ]
      refine wpAnyH_ready (rs := [20]) (by kernel_rfl) (by simp) ?_
      refine AllReadyH.cons (o := { dst := some 33, op := _, type := _, pos := _, after := _, guard := _ }) rfl (fun K hK => ?_) AllReadyH.nil
      go_simp
      refine (HH2.out _ (HS.out _ hHeld)).mono ?_
      rintro e r7 ⟨rfl, hk7⟩
      have hKeep := since_step hHeld hk7
      go_wp2_with fail
      refine hK.out _ _ (by (try dsimp only); exact hKeep) (fun hHeld => ?_)
      clear hK K hKeep
      try simp only [Act.put, List.setIfInBounds_toArray, List.set_cons_zero, List.set_cons_succ]
      refine wpAnyH_take (i := 21) (oi := { dst := some 34, op := _, type := _, pos := _, after := _, guard := _ }) (v := ?_) rfl (by kernel_rfl) (by kernel_rfl) (by kernel_rfl) (fun _ _ _ h => h) (Or.inl ⟨by rfl, ?_⟩) hHeld ?_
      rotate_left
      · (intro w hSw; obtain ⟨q0, q1, q2, q3⟩ := (HV.out _ hSw).got; simp only at q0 q1 q2 q3; obtain ⟨u0, u1⟩ := (HU.out _ hSw).got; go_simp <;> with_reducible rfl)
      try simp only [Act.put, List.setIfInBounds_toArray, List.set_cons_zero, List.set_cons_succ]
      refine wpAnyH_take (i := 22) (oi := { dst := some 35, op := _, type := _, pos := _, after := _, guard := _ }) (v := ?_) rfl (by kernel_rfl) (by kernel_rfl) (by kernel_rfl) (fun _ _ _ h => h) (Or.inl ⟨by rfl, ?_⟩) hHeld ?_
      rotate_left
      · (intro w hSw; obtain ⟨q0, q1, q2, q3⟩ := (HV.out _ hSw).got; simp only at q0 q1 q2 q3; obtain ⟨u0, u1⟩ := (HU.out _ hSw).got; go_simp <;> with_reducible rfl)
      try simp only [Act.put, List.setIfInBounds_toArray, List.set_cons_zero, List.set_cons_succ]
      refine wpAnyH_done (by kernel_rfl) ?_ _
      have hV := HV.out _ hHeld
      have hS := HS.out _ hHeld
      have hB := hB.trans (hHeld.mono hB.size)
      skip
      obtain ⟨hV_0, hV_1, hV_2, hV_3⟩ := hV.got
      have hV_l := hV.lt
      go_wp2_with fail
      refine (HB1.out _ hS).mono ?_
      rintro e z1 ⟨rfl, hb⟩
      have hB := since_step hB hb
      have hV := hV.below hb
      have hS := hS.below hb
      clear hb
      clear hV_0 hV_1 hV_2 hV_3 hV_l
      obtain ⟨hV_0, hV_1, hV_2, hV_3⟩ := hV.got
      have hV_l := hV.lt
      go_wp2_with fail
      have hP := Aq.new z1 ⟨0, 0, 0, none, 0, 0⟩
      have hA := (Below.refl z1.heap.size z1).alloc (Nat.le_refl _) (.cells #[.int .i64 0, .int .i64 0, .int .i64 0, .slice none 0 0] 24)
      have hV := hV.below hA
      have hS := hS.below hA
      have hB := since_step hB hA
      clear hA
      refine (HB2.out _ hS).mono ?_
      rintro e z2 ⟨rfl, hb⟩
      have hB := since_step hB hb
      have hV := hV.below hb
      have hS := hS.below hb
      have hP := hP.below hb
      clear hb
      clear hV_0 hV_1 hV_2 hV_3 hV_l
      clear hV hS
      obtain ⟨hP_0, hP_1, hP_2, hP_3⟩ := hP.got
      have hP_l := hP.lt
      go_wp2_with fail
      have hQ := Aq.new z2 ⟨0, 0, 0, none, 0, 0⟩
      have hA := (Below.refl z2.heap.size z2).alloc (Nat.le_refl _) (.cells #[.int .i64 0, .int .i64 0, .int .i64 0, .slice none 0 0] 24)
      have hP := hP.below hA
      have hB := since_step hB hA
      clear hA
      refine (HS1.out _).mono ?_
      rintro e z3 ⟨rfl, hb⟩
      have hB := since_step hB hb
      have hP := hP.below hb
      have hQ := hQ.below hb
      clear hb
      clear hP_0 hP_1 hP_2 hP_3 hP_l
      go_wp2_with fail
      refine (lives15_any _).mono ?_
      rintro e z4 ⟨rfl, hb⟩
      have hB := since_step hB hb
      clear hb
      go_wp2_with fail
      go_ret
      exact ⟨rfl, hB⟩
  · by_cases hE0 : E = 0
    · subst hE0
      have HB1 := Lib.hid (fun V h => (HB1.out V h).mono fun _ _ h => And.intro h.1.some h.2)
      have HB2 := Lib.hid (fun V h => (HB2.out V h).mono fun _ _ h => And.intro h.1.some h.2)
      have HS1 := Lib.hid (fun A1 A2 c1 c2 V h1 h2 => sameone_self id mem kind A1 A2 c1 c2 M V hMl h1 h2)
      go_wp2_with fail
      refine wp_region_held_drew (S := (fun V => Below W.heap.size W V)) (by kernel_rfl) (by exact (Below.refl _ _).drew) (fun hHeld => ?_)
      refine wpAnyH_take (i := 0) (oi := { dst := some 13, op := _, type := _, pos := _, after := _, guard := _ }) (v := ?_) rfl (by kernel_rfl) (by kernel_rfl) (by kernel_rfl) (fun _ _ _ h => h) (Or.inl ⟨by rfl, ?_⟩) hHeld ?_
      rotate_left
      · (intro w hSw; obtain ⟨q0, q1, q2, q3⟩ := (HV.out _ hSw).got; simp only at q0 q1 q2 q3; obtain ⟨u0, u1⟩ := (HU.out _ hSw).got; go_simp <;> with_reducible rfl)
      try simp only [Act.put, List.setIfInBounds_toArray, List.set_cons_zero, List.set_cons_succ]
      refine wpAnyH_take (i := 3) (oi := { dst := some 16, op := _, type := _, pos := _, after := _, guard := _ }) (v := ?_) rfl (by kernel_rfl) (by kernel_rfl) (by kernel_rfl) (fun _ _ _ h => h) (Or.inl ⟨by rfl, ?_⟩) hHeld ?_
      rotate_left
      · (intro w hSw; obtain ⟨q0, q1, q2, q3⟩ := (HV.out _ hSw).got; simp only at q0 q1 q2 q3; obtain ⟨u0, u1⟩ := (HU.out _ hSw).got; go_simp <;> with_reducible rfl)
      try simp only [Act.put, List.setIfInBounds_toArray, List.set_cons_zero, List.set_cons_succ]
      refine wpAnyH_ready (rs := [1]) (by kernel_rfl) (by simp) ?_
      refine AllReadyH.cons (o := { dst := some 14, op := _, type := _, pos := _, after := _, guard := _ }) rfl (fun K hK => ?_) AllReadyH.nil
      go_simp
      refine (HCK.out _ (HS.out _ hHeld)).mono ?_
      rw [HCE.out]
      rintro e r1 ⟨rfl, hk1⟩
      have hKeep := since_step hHeld hk1
      go_wp2_with fail
      refine hK.out _ _ (by (try dsimp only); exact hKeep) (fun hHeld => ?_)
      clear hK K hKeep
      try simp only [Act.put, List.setIfInBounds_toArray, List.set_cons_zero, List.set_cons_succ]
      refine wpAnyH_take (i := 2) (oi := { dst := some 15, op := _, type := _, pos := _, after := _, guard := _ }) (v := ?_) rfl (by kernel_rfl) (by kernel_rfl) (by kernel_rfl) (fun _ _ _ h => h) (Or.inl ⟨by rfl, ?_⟩) hHeld ?_
      rotate_left
      · (intro w hSw; obtain ⟨q0, q1, q2, q3⟩ := (HV.out _ hSw).got; simp only at q0 q1 q2 q3; obtain ⟨u0, u1⟩ := (HU.out _ hSw).got; go_simp <;> with_reducible rfl)
      try simp only [Act.put, List.setIfInBounds_toArray, List.set_cons_zero, List.set_cons_succ]
      refine wpAnyH_ready (rs := [4]) (by kernel_rfl) (by simp) ?_
      refine AllReadyH.cons (o := { dst := some 17, op := _, type := _, pos := _, after := _, guard := _ }) rfl (fun K hK => ?_) AllReadyH.nil
      go_simp
      refine (HIS.out _ (HS.out _ hHeld)).mono ?_
      rw [HIE.out]
      rintro e r2 ⟨rfl, hk2⟩
      have hKeep := since_step hHeld hk2
      go_wp2_with fail
      refine hK.out _ _ (by (try dsimp only); exact hKeep) (fun hHeld => ?_)
      clear hK K hKeep
      try simp only [Act.put, List.setIfInBounds_toArray, List.set_cons_zero, List.set_cons_succ]
      refine wpAnyH_take (i := 5) (oi := { dst := some 18, op := _, type := _, pos := _, after := _, guard := _ }) (v := ?_) rfl (by kernel_rfl) (by kernel_rfl) (by kernel_rfl) (fun _ _ _ h => h) (Or.inl ⟨by rfl, ?_⟩) hHeld ?_
      rotate_left
      · (intro w hSw; obtain ⟨q0, q1, q2, q3⟩ := (HV.out _ hSw).got; simp only at q0 q1 q2 q3; obtain ⟨u0, u1⟩ := (HU.out _ hSw).got; go_simp <;> with_reducible rfl)
      try simp only [Act.put, List.setIfInBounds_toArray, List.set_cons_zero, List.set_cons_succ]
      refine wpAnyH_take (i := 6) (oi := { dst := some 19, op := _, type := _, pos := _, after := _, guard := _ }) (v := ?_) rfl (by kernel_rfl) (by kernel_rfl) (by kernel_rfl) (fun _ _ _ h => h) (Or.inl ⟨by rfl, ?_⟩) hHeld ?_
      rotate_left
      · (intro w hSw; obtain ⟨q0, q1, q2, q3⟩ := (HV.out _ hSw).got; simp only at q0 q1 q2 q3; obtain ⟨u0, u1⟩ := (HU.out _ hSw).got; go_simp <;> with_reducible rfl)
      try simp only [Act.put, List.setIfInBounds_toArray, List.set_cons_zero, List.set_cons_succ]
      refine wpAnyH_take (i := 7) (oi := { dst := some 20, op := _, type := _, pos := _, after := _, guard := _ }) (v := ?_) rfl (by kernel_rfl) (by kernel_rfl) (by kernel_rfl) (fun _ _ _ h => h) (Or.inl ⟨by rfl, ?_⟩) hHeld ?_
      rotate_left
      · (intro w hSw; obtain ⟨q0, q1, q2, q3⟩ := (HV.out _ hSw).got; simp only at q0 q1 q2 q3; obtain ⟨u0, u1⟩ := (HU.out _ hSw).got; go_simp <;> with_reducible rfl)
      try simp only [Act.put, List.setIfInBounds_toArray, List.set_cons_zero, List.set_cons_succ]
      refine wpAnyH_take (i := 9) (oi := { dst := some 22, op := _, type := _, pos := _, after := _, guard := _ }) (v := ?_) rfl (by kernel_rfl) (by kernel_rfl) (by kernel_rfl) (fun _ _ _ h => h) (Or.inl ⟨by rfl, ?_⟩) hHeld ?_
      rotate_left
      · (intro w hSw; obtain ⟨q0, q1, q2, q3⟩ := (HV.out _ hSw).got; simp only at q0 q1 q2 q3; obtain ⟨u0, u1⟩ := (HU.out _ hSw).got; go_simp <;> with_reducible rfl)
      try simp only [Act.put, List.setIfInBounds_toArray, List.set_cons_zero, List.set_cons_succ]
      refine wpAnyH_ready (rs := [8]) (by kernel_rfl) (by simp) ?_
      refine AllReadyH.cons (o := { dst := some 21, op := _, type := _, pos := _, after := _, guard := _ }) rfl (fun K hK => ?_) AllReadyH.nil
      go_simp
      refine (HU1.out _ (HS.out _ hHeld)).mono ?_
      rintro e r3 ⟨⟨A1, c1, rfl, hown1⟩, hk3⟩
      have hKeep := since_step hHeld hk3
      have hR1 := Sl.of_own hown1
      go_wp2_with fail
      refine hK.out _ _ (by (try dsimp only); exact hKeep) (fun hHeld => ?_)
      clear hK K hKeep
      try simp only [Act.put, List.setIfInBounds_toArray, List.set_cons_zero, List.set_cons_succ]
      refine wpAnyH_ready (rs := [10]) (by kernel_rfl) (by simp) ?_
      refine AllReadyH.cons (o := { dst := some 23, op := _, type := _, pos := _, after := _, guard := _ }) rfl (fun K hK => ?_) AllReadyH.nil
      go_simp
      refine (HU2.out _ (HS.out _ hHeld)).mono ?_
      rintro e r4 ⟨⟨A2, c2, rfl, hown2⟩, hk4⟩
      have hKeep := since_step hHeld hk4
      have hR2 := Sl.of_own hown2
      have hR1 := hR1.below hk4
      go_wp2_with fail
      refine hK.out _ _ (by (try dsimp only); exact hKeep) (fun hHeld => ?_)
      clear hK K hKeep
      try simp only [Act.put, List.setIfInBounds_toArray, List.set_cons_zero, List.set_cons_succ]
      refine wpAnyH_ready (rs := [11]) (by kernel_rfl) (by simp) ?_
      refine AllReadyH.cons (o := { dst := some 24, op := _, type := _, pos := _, after := _, guard := _ }) rfl (fun K hK => ?_) AllReadyH.nil
      go_simp
      refine (HSU.out _ _ _ _ _ hR1 hR2).mono ?_
      rintro e r5 ⟨rfl, hk5⟩
      have hKeep := since_step hHeld hk5
      go_wp2_with fail
      refine hK.out _ _ (by (try dsimp only); exact hKeep) (fun hHeld => ?_)
      clear hK K hKeep
      try simp only [Act.put, List.setIfInBounds_toArray, List.set_cons_zero, List.set_cons_succ]
      refine wpAnyH_take (i := 12) (oi := { dst := some 25, op := _, type := _, pos := _, after := _, guard := _ }) (v := ?_) rfl (by kernel_rfl) (by kernel_rfl) (by kernel_rfl) (fun _ _ _ h => h) (Or.inl ⟨by rfl, ?_⟩) hHeld ?_
      rotate_left
      · (intro w hSw; obtain ⟨q0, q1, q2, q3⟩ := (HV.out _ hSw).got; simp only at q0 q1 q2 q3; obtain ⟨u0, u1⟩ := (HU.out _ hSw).got; go_simp <;> with_reducible rfl)
      try simp only [Act.put, List.setIfInBounds_toArray, List.set_cons_zero, List.set_cons_succ]
      refine wpAnyH_take (i := 13) (oi := { dst := some 26, op := _, type := _, pos := _, after := _, guard := _ }) (v := ?_) rfl (by kernel_rfl) (by kernel_rfl) (by kernel_rfl) (fun _ _ _ h => h) (Or.inl ⟨by rfl, ?_⟩) hHeld ?_
      rotate_left
      · (intro w hSw; obtain ⟨q0, q1, q2, q3⟩ := (HV.out _ hSw).got; simp only at q0 q1 q2 q3; obtain ⟨u0, u1⟩ := (HU.out _ hSw).got; go_simp <;> with_reducible rfl)
      try simp only [Act.put, List.setIfInBounds_toArray, List.set_cons_zero, List.set_cons_succ]
      refine wpAnyH_take (i := 14) (oi := { dst := some 27, op := _, type := _, pos := _, after := _, guard := _ }) (v := ?_) rfl (by kernel_rfl) (by kernel_rfl) (by kernel_rfl) (fun _ _ _ h => h) (Or.inl ⟨by rfl, ?_⟩) hHeld ?_
      rotate_left
      · (intro w hSw; obtain ⟨q0, q1, q2, q3⟩ := (HV.out _ hSw).got; simp only at q0 q1 q2 q3; obtain ⟨u0, u1⟩ := (HU.out _ hSw).got; go_simp <;> with_reducible rfl)
      try simp only [Act.put, List.setIfInBounds_toArray, List.set_cons_zero, List.set_cons_succ]
      refine wpAnyH_take (i := 15) (oi := { dst := some 28, op := _, type := _, pos := _, after := _, guard := _ }) (v := ?_) rfl (by kernel_rfl) (by kernel_rfl) (by kernel_rfl) (fun _ _ _ h => h) (Or.inl ⟨by rfl, ?_⟩) hHeld ?_
      rotate_left
      · (intro w hSw; obtain ⟨q0, q1, q2, q3⟩ := (HV.out _ hSw).got; simp only at q0 q1 q2 q3; obtain ⟨u0, u1⟩ := (HU.out _ hSw).got; go_simp <;> with_reducible rfl)
      try simp only [Act.put, List.setIfInBounds_toArray, List.set_cons_zero, List.set_cons_succ]
      refine wpAnyH_take (i := 16) (oi := { dst := some 29, op := _, type := _, pos := _, after := _, guard := _ }) (v := ?_) rfl (by kernel_rfl) (by kernel_rfl) (by kernel_rfl) (fun _ _ _ h => h) (Or.inl ⟨by rfl, ?_⟩) hHeld ?_
      rotate_left
      · (intro w hSw; obtain ⟨q0, q1, q2, q3⟩ := (HV.out _ hSw).got; simp only at q0 q1 q2 q3; obtain ⟨u0, u1⟩ := (HU.out _ hSw).got; go_simp <;> with_reducible rfl)
      try simp only [Act.put, List.setIfInBounds_toArray, List.set_cons_zero, List.set_cons_succ]
      refine wpAnyH_take (i := 18) (oi := { dst := some 31, op := _, type := _, pos := _, after := _, guard := _ }) (v := ?_) rfl (by kernel_rfl) (by kernel_rfl) (by kernel_rfl) (fun _ _ _ h => h) (Or.inl ⟨by rfl, ?_⟩) hHeld ?_
      rotate_left
      · (intro w hSw; obtain ⟨q0, q1, q2, q3⟩ := (HV.out _ hSw).got; simp only at q0 q1 q2 q3; obtain ⟨u0, u1⟩ := (HU.out _ hSw).got; go_simp <;> with_reducible rfl)
      try simp only [Act.put, List.setIfInBounds_toArray, List.set_cons_zero, List.set_cons_succ]
      refine wpAnyH_take (i := 19) (oi := { dst := some 32, op := _, type := _, pos := _, after := _, guard := _ }) (v := ?_) rfl (by kernel_rfl) (by kernel_rfl) (by kernel_rfl) (fun _ _ _ h => h) (Or.inl ⟨by rfl, ?_⟩) hHeld ?_
      rotate_left
      · (intro w hSw; obtain ⟨q0, q1, q2, q3⟩ := (HV.out _ hSw).got; simp only at q0 q1 q2 q3; obtain ⟨u0, u1⟩ := (HU.out _ hSw).got; go_simp <;> with_reducible rfl)
      try simp only [Act.put, List.setIfInBounds_toArray, List.set_cons_zero, List.set_cons_succ]
      refine wpAnyH_ready (rs := [17]) (by kernel_rfl) (by simp) ?_
      refine AllReadyH.cons (o := { dst := some 30, op := _, type := _, pos := _, after := _, guard := _ }) rfl (fun K hK => ?_) AllReadyH.nil
      go_simp
      refine (HH1.out _ (HS.out _ hHeld)).mono ?_
      rintro e r6 ⟨rfl, hk6⟩
      have hKeep := since_step hHeld hk6
      go_wp2_with fail
      refine hK.out _ _ (by (try dsimp only); exact hKeep) (fun hHeld => ?_)
      clear hK K hKeep
      try simp only [Act.put, List.setIfInBounds_toArray, List.set_cons_zero, List.set_cons_succ]
      refine wpAnyH_ready (rs := [20]) (by kernel_rfl) (by simp) ?_
      refine AllReadyH.cons (o := { dst := some 33, op := _, type := _, pos := _, after := _, guard := _ }) rfl (fun K hK => ?_) AllReadyH.nil
      go_simp
      refine (HH2.out _ (HS.out _ hHeld)).mono ?_
      rintro e r7 ⟨rfl, hk7⟩
      have hKeep := since_step hHeld hk7
      go_wp2_with fail
      refine hK.out _ _ (by (try dsimp only); exact hKeep) (fun hHeld => ?_)
      clear hK K hKeep
      try simp only [Act.put, List.setIfInBounds_toArray, List.set_cons_zero, List.set_cons_succ]
      refine wpAnyH_take (i := 21) (oi := { dst := some 34, op := _, type := _, pos := _, after := _, guard := _ }) (v := ?_) rfl (by kernel_rfl) (by kernel_rfl) (by kernel_rfl) (fun _ _ _ h => h) (Or.inl ⟨by rfl, ?_⟩) hHeld ?_
      rotate_left
      · (intro w hSw; obtain ⟨q0, q1, q2, q3⟩ := (HV.out _ hSw).got; simp only at q0 q1 q2 q3; obtain ⟨u0, u1⟩ := (HU.out _ hSw).got; go_simp <;> with_reducible rfl)
      try simp only [Act.put, List.setIfInBounds_toArray, List.set_cons_zero, List.set_cons_succ]
      refine wpAnyH_take (i := 22) (oi := { dst := some 35, op := _, type := _, pos := _, after := _, guard := _ }) (v := ?_) rfl (by kernel_rfl) (by kernel_rfl) (by kernel_rfl) (fun _ _ _ h => h) (Or.inl ⟨by rfl, ?_⟩) hHeld ?_
      rotate_left
      · (intro w hSw; obtain ⟨q0, q1, q2, q3⟩ := (HV.out _ hSw).got; simp only at q0 q1 q2 q3; obtain ⟨u0, u1⟩ := (HU.out _ hSw).got; go_simp <;> with_reducible rfl)
      try simp only [Act.put, List.setIfInBounds_toArray, List.set_cons_zero, List.set_cons_succ]
      refine wpAnyH_done (by kernel_rfl) ?_ _
      have hV := HV.out _ hHeld
      have hS := HS.out _ hHeld
      have hB := hB.trans (hHeld.mono hB.size)
      skip
      obtain ⟨hV_0, hV_1, hV_2, hV_3⟩ := hV.got
      have hV_l := hV.lt
      go_wp2_with fail
      refine (HB1.out _ hS).mono ?_
      rintro e z1 ⟨⟨A3, c3, rfl, hown⟩, hb⟩
      have hB := since_step hB hb
      have hV := hV.below hb
      have hS := hS.below hb
      clear hb
      clear hV_0 hV_1 hV_2 hV_3 hV_l
      have hM := Sl.of_own hown
      clear hown
      obtain ⟨hV_0, hV_1, hV_2, hV_3⟩ := hV.got
      have hV_l := hV.lt
      go_wp2_with fail
      have hP := Aq.new z1 ⟨id, mem, kind, A3, M.length, c3⟩
      have hA := (Below.refl z1.heap.size z1).alloc (Nat.le_refl _) (.cells #[.int .i64 id, .int .i64 mem, .int .i64 kind, .slice A3 M.length c3] 24)
      have hV := hV.below hA
      have hS := hS.below hA
      have hM := hM.below hA
      have hB := since_step hB hA
      clear hA
      refine (HB2.out _ hS).mono ?_
      rintro e z2 ⟨⟨A4, c4, rfl, hown⟩, hb⟩
      have hB := since_step hB hb
      have hV := hV.below hb
      have hS := hS.below hb
      have hM := hM.below hb
      have hP := hP.below hb
      clear hb
      clear hV_0 hV_1 hV_2 hV_3 hV_l
      have hK := Sl.of_own hown
      clear hown
      clear hV hS
      obtain ⟨hP_0, hP_1, hP_2, hP_3⟩ := hP.got
      have hP_l := hP.lt
      go_wp2_with fail
      have hQ := Aq.new z2 ⟨id, mem, kind, A4, M.length, c4⟩
      have hA := (Below.refl z2.heap.size z2).alloc (Nat.le_refl _) (.cells #[.int .i64 id, .int .i64 mem, .int .i64 kind, .slice A4 M.length c4] 24)
      have hM := hM.below hA
      have hP := hP.below hA
      have hK := hK.below hA
      have hB := since_step hB hA
      clear hA
      refine (HS1.out A3 A4 c3 c4 _ hM hK).mono ?_
      rintro e z3 ⟨rfl, hb⟩
      have hB := since_step hB hb
      have hM := hM.below hb
      have hP := hP.below hb
      have hK := hK.below hb
      have hQ := hQ.below hb
      clear hb
      clear hP_0 hP_1 hP_2 hP_3 hP_l
      go_wp2_with fail
      refine (lives15_any _).mono ?_
      rintro e z4 ⟨rfl, hb⟩
      have hB := since_step hB hb
      clear hb
      go_wp2_with fail
      go_ret
      exact ⟨rfl, hB⟩
    · have HB1 := Lib.hid (fun V h => (HB1.out V h).mono fun _ _ h => And.intro (h.1.zero hE0) h.2)
      have HB2 := Lib.hid (fun V h => (HB2.out V h).mono fun _ _ h => And.intro (h.1.zero hE0) h.2)
      have HS1 := Lib.hid (fun V => sameone_self 0 0 0 none none 0 0 [] V (by decide) Sl.nil Sl.nil)
      have hEE : (E == E) = true := by simp
      clear hE0
      simp only [List.length_nil] at HS1
      go_wp2_with fail
      refine wp_region_held_drew (S := (fun V => Below W.heap.size W V)) (by kernel_rfl) (by exact (Below.refl _ _).drew) (fun hHeld => ?_)
      refine wpAnyH_take (i := 0) (oi := { dst := some 13, op := _, type := _, pos := _, after := _, guard := _ }) (v := ?_) rfl (by kernel_rfl) (by kernel_rfl) (by kernel_rfl) (fun _ _ _ h => h) (Or.inl ⟨by rfl, ?_⟩) hHeld ?_
      rotate_left
      · (intro w hSw; obtain ⟨q0, q1, q2, q3⟩ := (HV.out _ hSw).got; simp only at q0 q1 q2 q3; obtain ⟨u0, u1⟩ := (HU.out _ hSw).got; go_simp <;> with_reducible rfl)
      try simp only [Act.put, List.setIfInBounds_toArray, List.set_cons_zero, List.set_cons_succ]
      refine wpAnyH_take (i := 3) (oi := { dst := some 16, op := _, type := _, pos := _, after := _, guard := _ }) (v := ?_) rfl (by kernel_rfl) (by kernel_rfl) (by kernel_rfl) (fun _ _ _ h => h) (Or.inl ⟨by rfl, ?_⟩) hHeld ?_
      rotate_left
      · (intro w hSw; obtain ⟨q0, q1, q2, q3⟩ := (HV.out _ hSw).got; simp only at q0 q1 q2 q3; obtain ⟨u0, u1⟩ := (HU.out _ hSw).got; go_simp <;> with_reducible rfl)
      try simp only [Act.put, List.setIfInBounds_toArray, List.set_cons_zero, List.set_cons_succ]
      refine wpAnyH_ready (rs := [1]) (by kernel_rfl) (by simp) ?_
      refine AllReadyH.cons (o := { dst := some 14, op := _, type := _, pos := _, after := _, guard := _ }) rfl (fun K hK => ?_) AllReadyH.nil
      go_simp
      refine (HCK.out _ (HS.out _ hHeld)).mono ?_
      rw [HCE.out]
      rintro e r1 ⟨rfl, hk1⟩
      have hKeep := since_step hHeld hk1
      go_wp2_with fail
      refine hK.out _ _ (by (try dsimp only); exact hKeep) (fun hHeld => ?_)
      clear hK K hKeep
      try simp only [Act.put, List.setIfInBounds_toArray, List.set_cons_zero, List.set_cons_succ]
      refine wpAnyH_take (i := 2) (oi := { dst := some 15, op := _, type := _, pos := _, after := _, guard := _ }) (v := ?_) rfl (by kernel_rfl) (by kernel_rfl) (by kernel_rfl) (fun _ _ _ h => h) (Or.inl ⟨by rfl, ?_⟩) hHeld ?_
      rotate_left
      · (intro w hSw; obtain ⟨q0, q1, q2, q3⟩ := (HV.out _ hSw).got; simp only at q0 q1 q2 q3; obtain ⟨u0, u1⟩ := (HU.out _ hSw).got; go_simp <;> with_reducible rfl)
      try simp only [Act.put, List.setIfInBounds_toArray, List.set_cons_zero, List.set_cons_succ]
      refine wpAnyH_ready (rs := [4]) (by kernel_rfl) (by simp) ?_
      refine AllReadyH.cons (o := { dst := some 17, op := _, type := _, pos := _, after := _, guard := _ }) rfl (fun K hK => ?_) AllReadyH.nil
      go_simp
      refine (HIS.out _ (HS.out _ hHeld)).mono ?_
      rw [HIE.out]
      rintro e r2 ⟨rfl, hk2⟩
      have hKeep := since_step hHeld hk2
      go_wp2_with fail
      refine hK.out _ _ (by (try dsimp only); exact hKeep) (fun hHeld => ?_)
      clear hK K hKeep
      try simp only [Act.put, List.setIfInBounds_toArray, List.set_cons_zero, List.set_cons_succ]
      refine wpAnyH_take (i := 5) (oi := { dst := some 18, op := _, type := _, pos := _, after := _, guard := _ }) (v := ?_) rfl (by kernel_rfl) (by kernel_rfl) (by kernel_rfl) (fun _ _ _ h => h) (Or.inl ⟨by rfl, ?_⟩) hHeld ?_
      rotate_left
      · (intro w hSw; obtain ⟨q0, q1, q2, q3⟩ := (HV.out _ hSw).got; simp only at q0 q1 q2 q3; obtain ⟨u0, u1⟩ := (HU.out _ hSw).got; go_simp <;> with_reducible rfl)
      try simp only [Act.put, List.setIfInBounds_toArray, List.set_cons_zero, List.set_cons_succ]
      refine wpAnyH_take (i := 6) (oi := { dst := some 19, op := _, type := _, pos := _, after := _, guard := _ }) (v := ?_) rfl (by kernel_rfl) (by kernel_rfl) (by kernel_rfl) (fun _ _ _ h => h) (Or.inl ⟨by rfl, ?_⟩) hHeld ?_
      rotate_left
      · (intro w hSw; obtain ⟨q0, q1, q2, q3⟩ := (HV.out _ hSw).got; simp only at q0 q1 q2 q3; obtain ⟨u0, u1⟩ := (HU.out _ hSw).got; go_simp <;> with_reducible rfl)
      try simp only [Act.put, List.setIfInBounds_toArray, List.set_cons_zero, List.set_cons_succ]
      refine wpAnyH_take (i := 7) (oi := { dst := some 20, op := _, type := _, pos := _, after := _, guard := _ }) (v := ?_) rfl (by kernel_rfl) (by kernel_rfl) (by kernel_rfl) (fun _ _ _ h => h) (Or.inl ⟨by rfl, ?_⟩) hHeld ?_
      rotate_left
      · (intro w hSw; obtain ⟨q0, q1, q2, q3⟩ := (HV.out _ hSw).got; simp only at q0 q1 q2 q3; obtain ⟨u0, u1⟩ := (HU.out _ hSw).got; go_simp <;> with_reducible rfl)
      try simp only [Act.put, List.setIfInBounds_toArray, List.set_cons_zero, List.set_cons_succ]
      refine wpAnyH_take (i := 9) (oi := { dst := some 22, op := _, type := _, pos := _, after := _, guard := _ }) (v := ?_) rfl (by kernel_rfl) (by kernel_rfl) (by kernel_rfl) (fun _ _ _ h => h) (Or.inl ⟨by rfl, ?_⟩) hHeld ?_
      rotate_left
      · (intro w hSw; obtain ⟨q0, q1, q2, q3⟩ := (HV.out _ hSw).got; simp only at q0 q1 q2 q3; obtain ⟨u0, u1⟩ := (HU.out _ hSw).got; go_simp <;> with_reducible rfl)
      try simp only [Act.put, List.setIfInBounds_toArray, List.set_cons_zero, List.set_cons_succ]
      refine wpAnyH_ready (rs := [8]) (by kernel_rfl) (by simp) ?_
      refine AllReadyH.cons (o := { dst := some 21, op := _, type := _, pos := _, after := _, guard := _ }) rfl (fun K hK => ?_) AllReadyH.nil
      go_simp
      refine (HU1.out _ (HS.out _ hHeld)).mono ?_
      rintro e r3 ⟨⟨A1, c1, rfl, hown1⟩, hk3⟩
      have hKeep := since_step hHeld hk3
      have hR1 := Sl.of_own hown1
      go_wp2_with fail
      refine hK.out _ _ (by (try dsimp only); exact hKeep) (fun hHeld => ?_)
      clear hK K hKeep
      try simp only [Act.put, List.setIfInBounds_toArray, List.set_cons_zero, List.set_cons_succ]
      refine wpAnyH_ready (rs := [10]) (by kernel_rfl) (by simp) ?_
      refine AllReadyH.cons (o := { dst := some 23, op := _, type := _, pos := _, after := _, guard := _ }) rfl (fun K hK => ?_) AllReadyH.nil
      go_simp
      refine (HU2.out _ (HS.out _ hHeld)).mono ?_
      rintro e r4 ⟨⟨A2, c2, rfl, hown2⟩, hk4⟩
      have hKeep := since_step hHeld hk4
      have hR2 := Sl.of_own hown2
      have hR1 := hR1.below hk4
      go_wp2_with fail
      refine hK.out _ _ (by (try dsimp only); exact hKeep) (fun hHeld => ?_)
      clear hK K hKeep
      try simp only [Act.put, List.setIfInBounds_toArray, List.set_cons_zero, List.set_cons_succ]
      refine wpAnyH_ready (rs := [11]) (by kernel_rfl) (by simp) ?_
      refine AllReadyH.cons (o := { dst := some 24, op := _, type := _, pos := _, after := _, guard := _ }) rfl (fun K hK => ?_) AllReadyH.nil
      go_simp
      refine (HSU.out _ _ _ _ _ hR1 hR2).mono ?_
      rintro e r5 ⟨rfl, hk5⟩
      have hKeep := since_step hHeld hk5
      go_wp2_with fail
      refine hK.out _ _ (by (try dsimp only); exact hKeep) (fun hHeld => ?_)
      clear hK K hKeep
      try simp only [Act.put, List.setIfInBounds_toArray, List.set_cons_zero, List.set_cons_succ]
      refine wpAnyH_take (i := 12) (oi := { dst := some 25, op := _, type := _, pos := _, after := _, guard := _ }) (v := ?_) rfl (by kernel_rfl) (by kernel_rfl) (by kernel_rfl) (fun _ _ _ h => h) (Or.inl ⟨by rfl, ?_⟩) hHeld ?_
      rotate_left
      · (intro w hSw; obtain ⟨q0, q1, q2, q3⟩ := (HV.out _ hSw).got; simp only at q0 q1 q2 q3; obtain ⟨u0, u1⟩ := (HU.out _ hSw).got; go_simp <;> with_reducible rfl)
      try simp only [Act.put, List.setIfInBounds_toArray, List.set_cons_zero, List.set_cons_succ]
      refine wpAnyH_take (i := 13) (oi := { dst := some 26, op := _, type := _, pos := _, after := _, guard := _ }) (v := ?_) rfl (by kernel_rfl) (by kernel_rfl) (by kernel_rfl) (fun _ _ _ h => h) (Or.inl ⟨by rfl, ?_⟩) hHeld ?_
      rotate_left
      · (intro w hSw; obtain ⟨q0, q1, q2, q3⟩ := (HV.out _ hSw).got; simp only at q0 q1 q2 q3; obtain ⟨u0, u1⟩ := (HU.out _ hSw).got; go_simp <;> with_reducible rfl)
      try simp only [Act.put, List.setIfInBounds_toArray, List.set_cons_zero, List.set_cons_succ]
      refine wpAnyH_take (i := 14) (oi := { dst := some 27, op := _, type := _, pos := _, after := _, guard := _ }) (v := ?_) rfl (by kernel_rfl) (by kernel_rfl) (by kernel_rfl) (fun _ _ _ h => h) (Or.inl ⟨by rfl, ?_⟩) hHeld ?_
      rotate_left
      · (intro w hSw; obtain ⟨q0, q1, q2, q3⟩ := (HV.out _ hSw).got; simp only at q0 q1 q2 q3; obtain ⟨u0, u1⟩ := (HU.out _ hSw).got; go_simp <;> with_reducible rfl)
      try simp only [Act.put, List.setIfInBounds_toArray, List.set_cons_zero, List.set_cons_succ]
      refine wpAnyH_take (i := 15) (oi := { dst := some 28, op := _, type := _, pos := _, after := _, guard := _ }) (v := ?_) rfl (by kernel_rfl) (by kernel_rfl) (by kernel_rfl) (fun _ _ _ h => h) (Or.inl ⟨by rfl, ?_⟩) hHeld ?_
      rotate_left
      · (intro w hSw; obtain ⟨q0, q1, q2, q3⟩ := (HV.out _ hSw).got; simp only at q0 q1 q2 q3; obtain ⟨u0, u1⟩ := (HU.out _ hSw).got; go_simp <;> with_reducible rfl)
      try simp only [Act.put, List.setIfInBounds_toArray, List.set_cons_zero, List.set_cons_succ]
      refine wpAnyH_take (i := 16) (oi := { dst := some 29, op := _, type := _, pos := _, after := _, guard := _ }) (v := ?_) rfl (by kernel_rfl) (by kernel_rfl) (by kernel_rfl) (fun _ _ _ h => h) (Or.inl ⟨by rfl, ?_⟩) hHeld ?_
      rotate_left
      · (intro w hSw; obtain ⟨q0, q1, q2, q3⟩ := (HV.out _ hSw).got; simp only at q0 q1 q2 q3; obtain ⟨u0, u1⟩ := (HU.out _ hSw).got; go_simp <;> with_reducible rfl)
      try simp only [Act.put, List.setIfInBounds_toArray, List.set_cons_zero, List.set_cons_succ]
      refine wpAnyH_take (i := 18) (oi := { dst := some 31, op := _, type := _, pos := _, after := _, guard := _ }) (v := ?_) rfl (by kernel_rfl) (by kernel_rfl) (by kernel_rfl) (fun _ _ _ h => h) (Or.inl ⟨by rfl, ?_⟩) hHeld ?_
      rotate_left
      · (intro w hSw; obtain ⟨q0, q1, q2, q3⟩ := (HV.out _ hSw).got; simp only at q0 q1 q2 q3; obtain ⟨u0, u1⟩ := (HU.out _ hSw).got; go_simp <;> with_reducible rfl)
      try simp only [Act.put, List.setIfInBounds_toArray, List.set_cons_zero, List.set_cons_succ]
      refine wpAnyH_take (i := 19) (oi := { dst := some 32, op := _, type := _, pos := _, after := _, guard := _ }) (v := ?_) rfl (by kernel_rfl) (by kernel_rfl) (by kernel_rfl) (fun _ _ _ h => h) (Or.inl ⟨by rfl, ?_⟩) hHeld ?_
      rotate_left
      · (intro w hSw; obtain ⟨q0, q1, q2, q3⟩ := (HV.out _ hSw).got; simp only at q0 q1 q2 q3; obtain ⟨u0, u1⟩ := (HU.out _ hSw).got; go_simp <;> with_reducible rfl)
      try simp only [Act.put, List.setIfInBounds_toArray, List.set_cons_zero, List.set_cons_succ]
      refine wpAnyH_ready (rs := [17]) (by kernel_rfl) (by simp) ?_
      refine AllReadyH.cons (o := { dst := some 30, op := _, type := _, pos := _, after := _, guard := _ }) rfl (fun K hK => ?_) AllReadyH.nil
      go_simp
      refine (HH1.out _ (HS.out _ hHeld)).mono ?_
      rintro e r6 ⟨rfl, hk6⟩
      have hKeep := since_step hHeld hk6
      go_wp2_with fail
      refine hK.out _ _ (by (try dsimp only); exact hKeep) (fun hHeld => ?_)
      clear hK K hKeep
      try simp only [Act.put, List.setIfInBounds_toArray, List.set_cons_zero, List.set_cons_succ]
      refine wpAnyH_ready (rs := [20]) (by kernel_rfl) (by simp) ?_
      refine AllReadyH.cons (o := { dst := some 33, op := _, type := _, pos := _, after := _, guard := _ }) rfl (fun K hK => ?_) AllReadyH.nil
      go_simp
      refine (HH2.out _ (HS.out _ hHeld)).mono ?_
      rintro e r7 ⟨rfl, hk7⟩
      have hKeep := since_step hHeld hk7
      go_wp2_with fail
      refine hK.out _ _ (by (try dsimp only); exact hKeep) (fun hHeld => ?_)
      clear hK K hKeep
      try simp only [Act.put, List.setIfInBounds_toArray, List.set_cons_zero, List.set_cons_succ]
      refine wpAnyH_take (i := 21) (oi := { dst := some 34, op := _, type := _, pos := _, after := _, guard := _ }) (v := ?_) rfl (by kernel_rfl) (by kernel_rfl) (by kernel_rfl) (fun _ _ _ h => h) (Or.inl ⟨by rfl, ?_⟩) hHeld ?_
      rotate_left
      · (intro w hSw; obtain ⟨q0, q1, q2, q3⟩ := (HV.out _ hSw).got; simp only at q0 q1 q2 q3; obtain ⟨u0, u1⟩ := (HU.out _ hSw).got; go_simp <;> with_reducible rfl)
      try simp only [Act.put, List.setIfInBounds_toArray, List.set_cons_zero, List.set_cons_succ]
      refine wpAnyH_take (i := 22) (oi := { dst := some 35, op := _, type := _, pos := _, after := _, guard := _ }) (v := ?_) rfl (by kernel_rfl) (by kernel_rfl) (by kernel_rfl) (fun _ _ _ h => h) (Or.inl ⟨by rfl, ?_⟩) hHeld ?_
      rotate_left
      · (intro w hSw; obtain ⟨q0, q1, q2, q3⟩ := (HV.out _ hSw).got; simp only at q0 q1 q2 q3; obtain ⟨u0, u1⟩ := (HU.out _ hSw).got; go_simp <;> with_reducible rfl)
      try simp only [Act.put, List.setIfInBounds_toArray, List.set_cons_zero, List.set_cons_succ]
      refine wpAnyH_done (by kernel_rfl) ?_ _
      have hV := HV.out _ hHeld
      have hS := HS.out _ hHeld
      have hB := hB.trans (hHeld.mono hB.size)
      skip
      obtain ⟨hV_0, hV_1, hV_2, hV_3⟩ := hV.got
      have hV_l := hV.lt
      go_wp2_with fail
      refine (HB1.out _ hS).mono ?_
      rintro e z1 ⟨rfl, hb⟩
      have hB := since_step hB hb
      have hV := hV.below hb
      have hS := hS.below hb
      clear hb
      clear hV_0 hV_1 hV_2 hV_3 hV_l
      obtain ⟨hV_0, hV_1, hV_2, hV_3⟩ := hV.got
      have hV_l := hV.lt
      go_wp2_with fail
      have hP := Aq.new z1 ⟨0, 0, 0, none, 0, 0⟩
      have hA := (Below.refl z1.heap.size z1).alloc (Nat.le_refl _) (.cells #[.int .i64 0, .int .i64 0, .int .i64 0, .slice none 0 0] 24)
      have hV := hV.below hA
      have hS := hS.below hA
      have hB := since_step hB hA
      clear hA
      refine (HB2.out _ hS).mono ?_
      rintro e z2 ⟨rfl, hb⟩
      have hB := since_step hB hb
      have hV := hV.below hb
      have hS := hS.below hb
      have hP := hP.below hb
      clear hb
      clear hV_0 hV_1 hV_2 hV_3 hV_l
      clear hV hS
      obtain ⟨hP_0, hP_1, hP_2, hP_3⟩ := hP.got
      have hP_l := hP.lt
      go_wp2_with fail
      have hQ := Aq.new z2 ⟨0, 0, 0, none, 0, 0⟩
      have hA := (Below.refl z2.heap.size z2).alloc (Nat.le_refl _) (.cells #[.int .i64 0, .int .i64 0, .int .i64 0, .slice none 0 0] 24)
      have hP := hP.below hA
      have hB := since_step hB hA
      clear hA
      refine (HS1.out _).mono ?_
      rintro e z3 ⟨rfl, hb⟩
      have hB := since_step hB hb
      have hP := hP.below hb
      have hQ := hQ.below hb
      clear hb
      clear hP_0 hP_1 hP_2 hP_3 hP_l
      go_wp2_with fail
      refine (lives15_any _).mono ?_
      rintro e z4 ⟨rfl, hb⟩
      have hB := since_step hB hb
      clear hb
      go_wp2_with fail
      go_ret
      exact ⟨rfl, hB⟩
end Go.Proofs.Ytpnaihnmmnjacaa
