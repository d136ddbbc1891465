/-
  The walks of layer 23, second part: IndexFunc, place, Clone, Set.
-/
import Derived.Test.YtaaknohoaijfhaaGive
import Derived.Lib.SliceRun
namespace Go.Proofs.Ytaaknohoaijfhaa
open Go.ChangeShapes Go.WideShapes Go.ChangeAt Go.RowKit
set_option linter.unusedVariables false
set_option linter.unusedSimpArgs false

/-- the place of the first of a number, or -1 -/
def gAt (l : List Gv) (id : Int) : Int := match l.findIdx? (fun g => g.id == id) with | some k => (k : Int) | none => -1
theorem gAt_none {l : List Gv} {id : Int} (h : ∀ j, (hj : j < l.length) → (l[j].id == id) = false) : gAt l id = -1 := by
  have : l.findIdx? (fun g => g.id == id) = none := by
    rw [List.findIdx?_eq_none_iff]
    intro x hx
    obtain ⟨j, hj, rfl⟩ := List.getElem_of_mem hx
    exact h j hj
  rw [gAt, this]
theorem gAt_some {l : List Gv} {id : Int} {k : Nat} (hk : k < l.length) (h : ∀ j, (hj : j < k) → (l[j].id == id) = false) (he : (l[k].id == id) = true) : gAt l id = k := by
  have : l.findIdx? (fun g => g.id == id) = some k := by
    rw [List.findIdx?_eq_some_iff_getElem]
    refine ⟨hk, he, fun j hj => ?_⟩
    rw [h j hj]
    decide
  rw [gAt, this]

set_option maxHeartbeats 1000000 in
theorem index_any (A : Option Addr) (cap : Nat) (l : List Gv) (c : Nat) (id : Int) (w : World) (hl : l.length ≤ 1000000) (hs : Sl w A (gcells l)) (hc : w.cell? ⟨c, 0, none⟩ = some (.int .i64 id)) :
    Calls Try.prog 53 #[.slice A l.length cap, .func (.func 54) #[] #[.pointer (some ⟨c, 0, none⟩)]] w fun e w' => e = .returned (.int .i64 (gAt l id)) ∧ Below w.heap.size w w' := by
  have hlt := World.block_lt_of_cell? _ _ hc
  go_enter Try.func53, Try.ntmps53
  go_wp2
  go_loopw [8] (fun i wr => ∃ k : Nat, k ≤ l.length ∧ i = .int .i64 k ∧ (∀ j, (hj : j < l.length) → j < k → (l[j].id == id) = false) ∧ Below w.heap.size w wr) (fun i _ => l.length - (intOf i).toNat)
  case atStart => exact ⟨0, by omega, rfl, fun j hj h => absurd h (by omega), Below.refl _ _⟩
  case round =>
    obtain ⟨k, hk, rfl, hno, hB⟩ := hrel
    by_cases hlt2 : k < l.length
    · obtain ⟨b, o, rfl, hbw, hg⟩ := hs.give hlt2
      have hg1 := hg.keep (w' := wr) fun i => hB.cell (p := ⟨b, i, none⟩) hbw
      obtain ⟨g0, g1, g2, g3, g4, g5, g6, g7, g8, g9, g10⟩ := hg1
      have hbr : b < wr.heap.size := Nat.lt_of_lt_of_le hbw hB.size
      have hcr := (hB.cell (p := ⟨c, 0, none⟩) hlt).trans hc
      cases hq : (l[k].id == id) with
      | true =>
        have HQ := Lib.hid hq
        go_wp2_with (first | (go_at_call 54; refine (is_any l[k] c id _ (by first | exact hcr | assumption)).mono ?_; rintro e w1 ⟨rfl, hb1⟩; have hB1 := since_step hB hb1; clear hb1; rw [HQ.out]))
        go_ret
        exact ⟨retI (gAt_some hlt2 (fun j hj => hno j (by omega) hj) hq).symm, hB1⟩
      | false =>
        have HQ := Lib.hid hq
        go_wp2_with (first | (go_at_call 54; refine (is_any l[k] c id _ (by first | exact hcr | assumption)).mono ?_; rintro e w1 ⟨rfl, hb1⟩; have hB1 := since_step hB hb1; clear hb1; rw [HQ.out]))
        go_roundw
        case rel =>
          refine ⟨k + 1, by omega, by go_num, fun j hj hjk => ?_, hB1⟩
          rcases Nat.lt_or_ge j k with h | h
          · exact hno j hj h
          · obtain rfl : j = k := by omega
            exact hq
        case measure => simp [intOf]; omega
    · go_wp2
      go_ret
      exact ⟨retI (gAt_none fun j hj => hno j hj (by omega)).symm, hB⟩

set_option maxHeartbeats 1000000 in
theorem place_any (A : Option Addr) (cap : Nat) (l : List Gv) (id : Int) (w : World) (hl : l.length ≤ 1000000) (hs : Sl w A (gcells l)) :
    Calls Try.prog 46 #[.slice A l.length cap, .int .i64 id] w fun e w' => e = .returned (.int .i64 (gAt l id)) ∧ Below w.heap.size w w' := by
  go_enter Try.func46, Try.ntmps46
  go_wp2_with fail
  refine (index_any A cap l w.heap.size id _ hl (hs.alloc _) (by simp)).mono ?_
  rintro e w1 ⟨rfl, hb1⟩
  have hB1 := since_step (since_alloc (Below.refl _ _) _) hb1
  clear hb1
  go_wp2_with fail
  go_ret
  exact ⟨rfl, hB1⟩

theorem EG : Elem Try.prog 39 43 11 88 := Elem.mk' (z := .agg #[.int .i64 0, .int .i64 0, .int .i64 0, .int .i64 0, .int .i64 0, .int .i64 0, .int .i64 0, .int .i64 0, .int .i64 0, .int .i64 0, .int .i64 0]) (by kernel_rfl) (by kernel_rfl) (by decide) (by decide)

/-- a row of give-ups in new memory, which may be written -/
def GNew (n : Nat) (w' : World) (A' : Option Addr) (l : List Gv) : Prop :=
  Sl w' A' (gcells l) ∧ (0 < l.length → ∃ g, A' = some ⟨g, 0, none⟩ ∧ n ≤ g ∧ g < w'.heap.size ∧ ∀ i, w'.frozen? ⟨g, i, none⟩ = false)

theorem own_cap {w : World} {base : Nat} {e : TypeId} {size n c : Nat} {A : Option Addr} {xs : List Value} (h : w.ownsRow base e size (.slice A n c) n xs) : n ≤ c ∧ c ≤ maxLen := by
  rcases h.2 with ⟨hv, h0⟩ | ⟨g, cap, cur, hv, hg, hh, hnc, hcm, _⟩
  · injection hv with e1 e2 e3; subst e3; subst h0; exact ⟨Nat.le_refl _, by decide⟩
  · injection hv with e1 e2 e3; subst e3; exact ⟨hnc, hcm⟩

theorem own_zero (w : World) (e : TypeId) (size : Nat) : (w.alloc (.cells #[] e)).ownsRow w.heap.size e size (.slice (some ⟨w.heap.size, 0, none⟩) 0 0) 0 [] :=
  ⟨by simp, .inr ⟨w.heap.size, 0, #[], rfl, Nat.le_refl _, heap_alloc_new w _, Nat.le_refl _, by simp, by simp, by simp⟩⟩

set_option maxHeartbeats 1000000 in
theorem clone_any (A : Option Addr) (cap : Nat) (l : List Gv) (w : World) (hl : l.length ≤ 1000000) (hs : Sl w A (gcells l)) :
    Calls Try.prog 55 #[.slice A l.length cap] w fun e w' => (∃ A' c', e = .returned (.slice A' l.length c') ∧ (l.length ≤ c' ∧ c' ≤ maxLen) ∧ GNew w.heap.size w' A' l) ∧ Below w.heap.size w w' := by
  cases A with
  | none =>
    have hn : l = [] := by
      cases l with
      | nil => rfl
      | cons g m => obtain ⟨b, o, e, _⟩ := hs.give (k := 0) (by simp); cases e
    subst hn
    have hnil := fun w : World => Go.Lib.run_eql_slice_nil (P := Try.prog) w 39 43 none 0 cap 0 0 EG.und
    go_enter Try.func55, Try.ntmps55
    go_wp2_with fail
    go_ret
    exact ⟨⟨none, 0, rfl, ⟨Nat.le_refl _, by decide⟩, Sl.nil, fun h => absurd h (by simp)⟩, Below.refl _ _⟩
  | some ad =>
    have hnil := fun w : World => Go.Lib.run_eql_slice_nil (P := Try.prog) w 39 43 (some ad) l.length cap 0 0 EG.und
    go_enter Try.func55, Try.ntmps55
    go_wp2_with (first
      | (at_builtin; refine wpList_app rfl (.tmp 5) (.tmp 6) rfl EG rfl rfl (own_zero w 43 11) (gcells_length l) (hs.alloc _) (gcells_one l) (by unfold maxLen; omega) (by omega) (by simp) ?_; intro A2 c2 w2 hown2 hg2 hb2; simp only [Nat.zero_add, List.nil_append] at hown2)
      | fail)
    refine bodyPost_ret (results_tmp rfl _ _ _) rfl ⟨⟨A2, c2, by simp, by simpa using own_cap hown2, ?_⟩, ?_⟩
    · refine ⟨Sl.of_own hown2, fun h => ?_⟩
      obtain ⟨g, e, h1, h2, h3⟩ := own_at hown2 h
      exact ⟨g, e, h1, h2, h3⟩
    · exact Below.trans ((Below.refl _ _).alloc (Nat.le_refl _) _) hb2

theorem gcells_set (g : Gv) : ∀ (l : List Gv) (k : Nat), k < l.length →
    (((((((((((gcells l).set (k * 11) (.int .i64 g.id)).set (k * 11 + 1) (.int .i64 g.fa)).set (k * 11 + 2) (.int .i64 g.fc)).set (k * 11 + 3) (.int .i64 g.ta)).set (k * 11 + 4) (.int .i64 g.tc)).set (k * 11 + 5) (.int .i64 g.inst)).set (k * 11 + 6) (.int .i64 g.qty)).set (k * 11 + 7) (.int .i64 g.price)).set (k * 11 + 8) (.int .i64 g.grp)).set (k * 11 + 9) (.int .i64 g.day)).set (k * 11 + 10) (.int .i64 g.st) = gcells (l.set k g) := by
  intro l
  induction l with
  | nil => intro k h; simp at h
  | cons a l ih =>
    intro k h
    cases k with
    | zero => simp [gcells, Gv.cells]
    | succ k =>
      have := ih k (by simpa using h)
      have e0 : (k + 1) * 11 = k * 11 + 11 := by omega
      rw [e0]
      simp only [gcells, List.map_cons, List.flatten_cons, List.set_cons_succ, Gv.cells, List.cons_append, List.nil_append] at this ⊢
      rw [← this]

theorem Sl.setG {w : World} {b k : Nat} {l : List Gv} (h : Sl w (some ⟨b, 0, none⟩) (gcells l)) (hk : k < l.length) (g : Gv) :
    Sl (((((((((((w.setCell ⟨b, k * 11, none⟩ (.int .i64 g.id)).setCell ⟨b, k * 11 + 1, none⟩ (.int .i64 g.fa)).setCell ⟨b, k * 11 + 2, none⟩ (.int .i64 g.fc)).setCell ⟨b, k * 11 + 3, none⟩ (.int .i64 g.ta)).setCell ⟨b, k * 11 + 4, none⟩ (.int .i64 g.tc)).setCell ⟨b, k * 11 + 5, none⟩ (.int .i64 g.inst)).setCell ⟨b, k * 11 + 6, none⟩ (.int .i64 g.qty)).setCell ⟨b, k * 11 + 7, none⟩ (.int .i64 g.price)).setCell ⟨b, k * 11 + 8, none⟩ (.int .i64 g.grp)).setCell ⟨b, k * 11 + 9, none⟩ (.int .i64 g.day)).setCell ⟨b, k * 11 + 10, none⟩ (.int .i64 g.st))
      (some ⟨b, 0, none⟩) (gcells (l.set k g)) := by
  rw [← gcells_set g l k hk]
  have hl := gcells_length l
  refine Sl.set0 (Sl.set0 (Sl.set0 (Sl.set0 (Sl.set0 (Sl.set0 (Sl.set0 (Sl.set0 (Sl.set0 (Sl.set0 (Sl.set0 h ?_ _) ?_ _) ?_ _) ?_ _) ?_ _) ?_ _) ?_ _) ?_ _) ?_ _) ?_ _) ?_ _
  all_goals first | omega | (simp only [List.length_set]; omega)

set_option maxHeartbeats 1000000 in
theorem set_any (A : Option Addr) (cap : Nat) (l : List Gv) (k : Nat) (g : Gv) (w : World) (hl : l.length ≤ 1000000) (hk : k < l.length) (hs : Sl w A (gcells l)) :
    Calls Try.prog 47 #[.slice A l.length cap, .int .i64 k, g.val] w fun e w' => (∃ A' c', e = .returned (.slice A' l.length c') ∧ (l.length ≤ c' ∧ c' ≤ maxLen) ∧ Sl w' A' (gcells (l.set k g))) ∧ Below w.heap.size w w' := by
  unfold Gv.val
  go_enter Try.func47, Try.ntmps47
  go_wp2_with fail
  refine (clone_any A cap l _ hl (hs.alloc _)).mono ?_
  rintro e w1 ⟨⟨A1, c1, rfl, hcap, hs1, hg1⟩, hb1⟩
  have HC := Lib.hid hcap
  clear hcap
  have Bv := (Bk.new w g.cells.toArray 43).below hb1
  have hB1 := since_step (since_alloc (Below.refl _ _) _) hb1
  obtain ⟨gb, rfl, h1, h2, h3⟩ := hg1 (by omega)
  simp only [World.size_alloc] at h1
  clear hb1
  obtain ⟨lb, cb⟩ := id Bv
  have q0 := cb 0
  have q1 := cb 1
  have q2 := cb 2
  have q3 := cb 3
  have q4 := cb 4
  have q5 := cb 5
  have q6 := cb 6
  have q7 := cb 7
  have q8 := cb 8
  have q9 := cb 9
  have q10 := cb 10
  simp [Gv.cells] at q0 q1 q2 q3 q4 q5 q6 q7 q8 q9 q10
  clear cb
  obtain ⟨b, o, e, hbw, hgat⟩ := hs1.give hk
  injection e with e
  injection e with e1 e2 e3
  subst e1; subst e2
  simp only [Nat.zero_add] at hgat
  obtain ⟨g0, g1, g2, g3, g4, g5, g6, g7, g8, g9, g10⟩ := id hgat
  go_wp2_with fail
  refine bodyPost_ret (results_tmp rfl _ _ _) rfl ⟨⟨_, _, rfl, HC.out, hs1.setG hk g⟩, ?_⟩
  repeat' (first | with_reducible exact hB1 | with_reducible refine Below.setCell ?_ ?_ _)
  all_goals first | (simp; done) | (simp; omega)
end Go.Proofs.Ytaaknohoaijfhaa
