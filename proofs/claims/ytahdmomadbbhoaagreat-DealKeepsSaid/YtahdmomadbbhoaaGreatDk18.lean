import Derived.Test.YtahdmomadbbhoaaGreatDk12
import Derived.Test.YtahdmomadbbhoaaGreatDk17
import Derived.Test.YtahdmomadbbhoaaGreatDk02
section
namespace Go.Proofs.YtahdmomadbbhoaaGreat
open Go.ChangeShapes Go.WideShapes Go.ChangeAt Go.RowKit
set_option linter.unusedVariables false
set_option linter.unusedSimpArgs false

theorem getG_cons (x : Lg) (r : List Lg) (i : Int) : getG (x :: r) i = if x.ins = i then x.qty else getG r i := by
  unfold getG pickL
  rw [List.find?_cons]
  by_cases h : x.ins = i
  · rw [if_pos h, show inG i x = true by simp [inG, h]]; rfl
  · rw [if_neg h, show inG i x = false by simp [inG, h]]
theorem getG_none {l : List Lg} {i : Int} (h : ∀ x ∈ l, x.ins ≠ i) : getG l i = 0 := by
  induction l with
  | nil => rfl
  | cons x r ih => rw [getG_cons, if_neg (h x (by simp)), ih (fun y hy => h y (by simp [hy]))]
abbrev SoG (l : List Lg) : Prop := l.Pairwise (fun a b => a.ins < b.ins)
theorem risingG : ∀ l : List Lg, risingL ahG l = true ↔ SoG l
  | [] => by simp [risingL]
  | [a] => by simp [risingL]
  | a :: b :: r => by
    have ih := risingG (b :: r)
    simp only [risingL, Bool.and_eq_true, ih, ahG, decide_eq_true_eq]
    constructor
    · rintro ⟨h1, h2⟩
      refine List.Pairwise.cons ?_ h2
      intro c hc
      rcases List.mem_cons.1 hc with rfl | hc
      · exact h1
      · have := List.rel_of_pairwise_cons h2 hc
        omega
    · intro h
      exact ⟨List.rel_of_pairwise_cons h (by simp), h.of_cons⟩
theorem isG_iff (l : List Lg) : isG l = true ↔ (∀ x ∈ l, 1 ≤ x.ins ∧ x.ins ≤ 8 ∧ x.qty ≠ 0) ∧ SoG l := by
  unfold isG
  rw [Bool.and_eq_true, List.all_eq_true, risingG]
  refine and_congr_left fun _ => ⟨fun h x hx => ?_, fun h x hx => ?_⟩
  · have := h x hx
    unfold okG at this
    simp only [Bool.and_eq_true, decide_eq_true_eq, Bool.not_eq_true', beq_eq_false_iff_ne] at this
    exact ⟨this.1.1, this.1.2, this.2⟩
  · obtain ⟨h1, h2, h3⟩ := h x hx
    unfold okG
    simp [h1, h2, h3]
theorem legs_back : ∀ (n : Nat) (i : Int) (l : List Lg), SoG l → (∀ x ∈ l, i ≤ x.ins ∧ x.ins < i + n ∧ x.qty ≠ 0) → legsF i ((List.range n).map fun j : Nat => getG l (i + (j : Int))) = l
  | 0, i, [], _, _ => rfl
  | 0, i, x :: r, _, h => by have := h x (by simp); omega
  | n + 1, i, l, hs, h => by
    rw [List.range_succ_eq_map, List.map_cons, List.map_map, legsF]
    have e0 : i + ((0 : Nat) : Int) = i := by simp
    rw [e0]
    have ef : ∀ m : List Lg, ((fun j : Nat => getG m (i + (j : Int))) ∘ Nat.succ) = fun j : Nat => getG m (i + 1 + (j : Int)) := fun m => by
      funext j
      simp only [Function.comp]
      congr 1
      omega
    rw [ef]
    cases l with
    | nil =>
      rw [show getG [] i = 0 from rfl, if_pos rfl, legs_back n (i + 1) [] hs (fun x hx => by cases hx)]; rfl
    | cons x r =>
      obtain ⟨h1, h2, h3⟩ := h x (by simp)
      by_cases hx : x.ins = i
      · rw [getG_cons, if_pos hx, if_neg h3]
        have e2 : (List.range n).map (fun j : Nat => getG (x :: r) (i + 1 + (j : Int))) = (List.range n).map fun j : Nat => getG r (i + 1 + (j : Int)) := by
          refine List.map_congr_left fun j _ => ?_
          rw [getG_cons, if_neg (by omega)]
        rw [e2, legs_back n (i + 1) r hs.of_cons fun y hy => ?_]
        · obtain ⟨a, b⟩ := x
          simp only at hx
          subst hx
          rfl
        · have := List.rel_of_pairwise_cons hs hy
          have := h y (by simp [hy])
          omega
      · rw [getG_none (l := x :: r) (i := i) (fun y hy => by
          rcases List.mem_cons.1 hy with rfl | hy
          · exact hx
          · have := List.rel_of_pairwise_cons hs hy; omega), if_pos rfl, List.nil_append]
        refine legs_back n (i + 1) (x :: r) hs fun y hy => ?_
        have := h y hy
        rcases List.mem_cons.1 hy with rfl | hy2
        · omega
        · have := List.rel_of_pairwise_cons hs hy2
          omega
def negG (l : List Lg) : List Lg := l.map fun x => ⟨x.ins, -x.qty⟩
theorem getG_neg (l : List Lg) (i : Int) : getG (negG l) i = -getG l i := by
  induction l with
  | nil => rfl
  | cons x r ih =>
    rw [show negG (x :: r) = ⟨x.ins, -x.qty⟩ :: negG r from rfl, getG_cons, getG_cons, ih]
    split <;> simp
theorem ofR_getG {l : List Lg} (hs : SoG l) (h : ∀ x ∈ l, 1 ≤ x.ins ∧ x.ins ≤ 8 ∧ x.qty ≠ 0) (h6 : ∀ x ∈ l, In64 x.qty) : ofR ((List.range 8).map fun j : Nat => getG l ((j : Int) + 1)) = (0, l) := by
  have e := legs_back 8 1 l hs (fun x hx => by have := h x hx; omega)
  have e2 : ((List.range 8).map fun j : Nat => getG l ((j : Int) + 1)) = (List.range 8).map fun j : Nat => getG l (1 + (j : Int)) := List.map_congr_left fun j _ => by rw [Int.add_comm]
  rw [e2]
  unfold ofR
  rw [if_pos, e]
  intro q hq
  obtain ⟨j, _, rfl⟩ := List.mem_map.1 hq
  exact getG_in h6 _
open Classical in
noncomputable def negR (l : List Lg) : Int × List Lg := if isG l = false then (3, []) else if ∀ x ∈ l, In64 (-x.qty) then (0, negG l) else (7, [])
set_option maxHeartbeats 8000000 in
set_option maxRecDepth 100000 in
theorem vneg_any (A : Option Addr) (cap : Nat) (l : List Lg) (w : World) (hl : l.length ≤ 900000) (h6 : ∀ y ∈ l, In64 y.qty) (hs : Sl w A (rc Lg.cells l)) :
    Calls Tryz.prog 63 #[.slice A l.length cap] w fun e w' => GRes w.heap.size w' e (negR l) ∧ Below w.heap.size w w' := by
  have HIS := vis_any A cap l w (by omega) hs
  cases hi : isG l with
  | false =>
    have HE : Hid (negR l = (3, [])) := Lib.hid (by unfold negR; rw [if_pos hi])
    rw [hi] at HIS
    clear hi
    go_enter Tryz.func63, Tryz.ntmps63
    go_wp2_with fail
    refine HIS.mono ?_
    rintro e w1 ⟨rfl, hb⟩
    go_wp2_with fail
    go_ret2
    rw [HE.out]
    exact ⟨GRes.nil _ _ _, hb⟩
  | true =>
    have HBAD : Hid (∀ k, (h : k < l.length) → ¬ In64 (-l[k].qty) → negR l = (7, [])) := Lib.hid fun k h hb => by
      unfold negR
      rw [if_neg (by rw [hi]; simp), if_neg (fun h2 => hb (h2 _ (List.getElem_mem h)))]
    have HEND : Hid ((∀ j, (hj : j < l.length) → In64 (-l[j].qty)) → negR l = (0, negG l)) := Lib.hid fun h => by
      unfold negR
      rw [if_neg (by rw [hi]; simp), if_pos fun x hx => by obtain ⟨j, hj, rfl⟩ := List.getElem_of_mem hx; exact h j hj]
    have HQ := Lib.hid h6
    generalize negR l = RR at *
    rw [hi] at HIS
    clear hi h6
    go_enter Tryz.func63, Tryz.ntmps63
    go_wp2_with fail
    refine HIS.mono ?_
    rintro e w0 ⟨rfl, hb0⟩
    have hs0 := hs.below hb0
    have hz0 := hb0.size
    clear HIS
    go_wp2_with (first | (at_make; refine wpList_mk rfl (.const (.int .i64 0)) (.tmp 13) rfl ELg l.length rfl rfl rfl (by omega) (by unfold maxLen; omega) (Nat.le_refl _) ?_; intro w1 own1 hb1) | fail)
    go_loopw [4, 17] (fun ov i wr => ∃ (k : Nat) (A2 : Option Addr) (c2 : Nat), k ≤ l.length ∧ i = .int .i64 k ∧ ov = .slice A2 (negG (l.take k)).length c2 ∧ wr.ownsRow w0.heap.size 75 2 (.slice A2 (negG (l.take k)).length c2) (negG (l.take k)).length (rc Lg.cells (negG (l.take k))) ∧ (∀ j, (hj : j < l.length) → j < k → In64 (-l[j].qty)) ∧ Below w0.heap.size w0 wr) (fun _ i _ => l.length - (intOf i).toNat)
    case atStart => exact ⟨0, _, _, by omega, rfl, rfl, own1, fun j hj h => absurd h (by omega), hb1⟩
    case round =>
      clear own1 hb1
      obtain ⟨k, A2, c2, hk, rfl, rfl, own2, hin, hB⟩ := hrel
      by_cases hlt : k < l.length
      · obtain ⟨b, o, rfl, hbw, hg⟩ := (hs0.below hB).lg hlt
        have hlk : (k : Int) < (l.length : Int) := by omega
        have hx6 := HQ.out _ (List.getElem_mem hlt)
        have HBK := Lib.hid (HBAD.out k hlt)
        have HNX : Hid (In64 (-l[k].qty) → ∀ j, (hj : j < l.length) → j < k + 1 → In64 (-l[j].qty)) := Lib.hid (fun h j hj hjk => by
          rcases Nat.lt_or_ge j k with h' | h'
          · exact hin j hj h'
          · obtain rfl : j = k := by omega
            exact h)
        have HT : Hid (negG (l.take (k + 1)) = negG (l.take k) ++ [⟨l[k].ins, -l[k].qty⟩]) := Lib.hid (by unfold negG; rw [List.take_succ_eq_append_getElem hlt, List.map_append]; rfl)
        have hRl : (negG (l.take k)).length ≤ 900000 := by unfold negG; rw [List.length_map, List.length_take]; omega
        have hA := since_alloc hB (.cells l[k].cells.toArray 75)
        obtain ⟨v, hv⟩ : ∃ v, l[k] = v := ⟨_, rfl⟩
        obtain ⟨R, hR⟩ : ∃ R, negG (l.take k) = R := ⟨_, rfl⟩
        rw [hv] at hg hx6 HBK HNX HT hA
        rw [hR] at own2 HT hRl ⊢
        obtain ⟨va, vq⟩ := v
        obtain ⟨g0, g1⟩ := hg
        unfold Lg.cells at hA
        simp only at g0 g1 hx6 HBK HNX HT hA
        have HSB := Lib.hid (fun V => fsub_any 0 vq (by unfold In64; omega) hx6 V)
        have e0 : (0 : Int) - vq = -vq := by omega
        rw [e0] at HSB
        have hZ := Bk.new wr #[.int .i64 va, .int .i64 vq] 75
        have own2 := own2.alloc (.cells #[.int .i64 va, .int .i64 vq] 75)
        clear hin hv hR e0 hx6 hbw
        by_cases h64 : In64 (-vq)
        · have h1 : fV (-vq) = -vq := if_pos h64
          have h2 : fE (-vq) = 0 := if_pos h64
          rw [h1, h2] at HSB
          have HN := Lib.hid (HNX.out h64)
          clear h1 h2 h64 HBK HNX
          go_wp2_with fail
          refine (HSB.out _).mono ?_
          rintro e w2 ⟨rfl, hb⟩
          have hB2 := since_step hA hb
          have hZ := hZ.below hb
          have own2 := own_below own2 hb
          have hsz := hB2.size
          obtain ⟨lb, cb⟩ := id hZ
          have q0 := cb 0
          have q1 := cb 1
          simp at q0 q1
          clear cb hb g0 g1
          go_wp2_with (first
            | (at_builtin; refine wpList_app rfl (.tmp 30) (.tmp 35) rfl ELg rfl rfl (own2.alloc _) (m := 1) (news := (⟨va, -vq⟩ : Lg).cells) rfl (Sl.new_ _ _ _) (Lg.one _) (by unfold maxLen; omega) (by omega) (by simp only [World.size_alloc]; omega) ?_; intro A3 c3 w3 own3 hg3 hb3)
            | fail)
          have hB3 := (since_alloc hB2 (.cells #[.int .i64 va, .int .i64 (-vq)] 75)).trans hb3
          go_roundw
          case rel => exact ⟨k + 1, A3, c3, by omega, by go_num, by rw [HT.out, List.length_append]; rfl, by rw [HT.out, List.length_append, rc_append]; simpa [rc] using own3, HN.out, hB3⟩
          case measure => simp [intOf]; omega
        · have h1 : fV (-vq) = 0 := if_neg h64
          have h2 : fE (-vq) = 7 := if_neg h64
          rw [h1, h2] at HSB
          have HE := Lib.hid (HBK.out h64)
          clear h1 h2 h64 HBK HNX
          go_wp2_with fail
          refine (HSB.out _).mono ?_
          rintro e w2 ⟨rfl, hb⟩
          have hB2 := since_step hA hb
          go_wp2_with fail
          go_ret2
          rw [HE.out]
          exact ⟨GRes.nil _ _ _, hb0.trans (hB2.mono hz0)⟩
      · obtain rfl : k = l.length := by omega
        have HE := Lib.hid (HEND.out fun j hj => hin j hj hj)
        rw [List.take_length] at own2 ⊢
        clear hin
        go_wp2_with fail
        go_ret2
        rw [HE.out]
        exact ⟨⟨A2, c2, rfl, own_base own2 hz0⟩, hb0.trans (hB.mono hz0)⟩
end Go.Proofs.YtahdmomadbbhoaaGreat
end
section
namespace Go.Proofs.YtahdmomadbbhoaaGreat
open Go.ChangeShapes Go.WideShapes Go.ChangeAt Go.RowKit
set_option linter.unusedVariables false
set_option linter.unusedSimpArgs false

theorem EI64 : Elem Tryz.prog 24 2 1 8 := Elem.mk' (z := .int .i64 0) (by kernel_rfl) (by kernel_rfl) (by decide) (by decide)
end Go.Proofs.YtahdmomadbbhoaaGreat
end
section
namespace Go.Proofs.YtahdmomadbbhoaaGreat
open Go.ChangeShapes Go.WideShapes Go.ChangeAt Go.RowKit
set_option linter.unusedVariables false
set_option linter.unusedSimpArgs false

section
variable {P : Program} {w : World}
theorem run_app2 {t ty e : TypeId} {size bytes : Nat} (E : Elem P t e size bytes) {base n m c d : Nat} {A B : Option Addr} {xs news : List Value}
    (hown : w.ownsRow base e size (.slice A n c) n xs) (hl : news.length = m * size) (hm : 0 < m) (hr : Sl w B news) (h1 : ∀ u ∈ news, u.oneCell' = true)
    (h63 : n + m ≤ maxLen) (hb : (n + m) * bytes ≤ 140737488355328) (hbase : base ≤ w.heap.size) :
    ∃ A' c' w', (Builtin.append_ #[t, t] ty #[.slice A n c, .slice B m d]).run P w = .ok (.slice A' (n + m) c') w' ∧ w'.ownsRow base e size (.slice A' (n + m) c') (n + m) (xs ++ news) ∧
      w.grownBy w' (Value.slice A n c).ownBlock ∧ ((Value.slice A' (n + m) c').ownBlock = (Value.slice A n c).ownBlock ∨ (Value.slice A' (n + m) c').ownBlock = some w.heap.size) ∧ Below base w w' := by
  obtain ⟨i, z, hi, hz, hsize, hby, hzs⟩ := E.info
  have hne : news ≠ [] := by
    intro h0
    rw [h0, List.length_nil] at hl
    rcases Nat.mul_eq_zero.1 hl.symm with h | h
    · omega
    · have := E.pos; omega
  obtain ⟨b, o, rfl, hc⟩ := hr hne
  obtain ⟨v', w', hrun, h2, h3, _, h5⟩ := run_append_own_at (P := P) w base t ty e i z size bytes E.und hi hz hsize hby hzs E.pos _ n xs hown ⟨b, o, none⟩ m d news hl
    (fun j u hu => by rw [addr_add]; exact hc j u hu) h1 h63 hb hbase
  obtain ⟨A', c', rfl⟩ := own_form h2
  exact ⟨A', c', w', hrun, h2, h3, h5, below_of_grown h3 hbase (own_ge hown)⟩
end
def Apart (v u : Value) : Prop := ∀ g, v.ownBlock = some g → u.ownBlock ≠ some g
theorem Apart.symm {v u : Value} (h : Apart v u) : Apart u v := fun g h1 h2 => h g h2 h1
theorem Apart.none (u : Value) : Apart (.slice none 0 0) u := fun g h => by simp [Value.ownBlock] at h
theorem Apart.grow {w : World} {base e size n : Nat} {v v' u : Value} {xs : List Value} (h : Apart v u) (hu : w.ownsRow base e size u n xs) (hv : v'.ownBlock = v.ownBlock ∨ v'.ownBlock = some w.heap.size) : Apart v' u := by
  intro g h1 h2
  rcases hv with hv | hv
  · exact h g (hv ▸ h1) h2
  · rw [hv] at h1
    injection h1 with h1
    subst h1
    rcases hu.2 with ⟨rfl, _⟩ | ⟨g', cap, cur, rfl, _, hh, _⟩
    · simp [Value.ownBlock] at h2
    · simp only [Value.ownBlock, Option.some.injEq] at h2
      subst h2
      rw [Array.getElem?_eq_none (Nat.le_refl _)] at hh
      cases hh
theorem own_apart {w w' : World} {base e size n : Nat} {v u : Value} {xs : List Value} (hu : w.ownsRow base e size u n xs) (h : Apart v u) (hg : w.grownBy w' v.ownBlock) : w'.ownsRow base e size u n xs := by
  refine hu.kept hg ?_
  rcases hu.2 with ⟨rfl, _⟩ | ⟨g, cap, cur, rfl, _, hh, _⟩
  · exact .inl rfl
  · right
    intro e
    exact h g e.symm (by simp [Value.ownBlock])
section
variable {P : Program} {w : World}
theorem step_app2 {ops : Array Oper} {o : Oper} {a : Act} {K : Act → World → Prop} {Q : Exit → Act → World → Prop} {Z : Prop} (hgd : o.guard = none) (s x : Operand) {t e : TypeId} {size bytes : Nat}
    (ho : o.op = .call { callee := .builtin .append, args := #[s, x], argTypes := #[t, t] }) (E : Elem P t e size bytes) {base n m c d : Nat} {A B : Option Addr} {xs news : List Value}
    (hs : a.eval s = .slice A n c) (hx : a.eval x = .slice B m d)
    (hown : w.ownsRow base e size (.slice A n c) n xs) (hl : news.length = m * size) (hm : 0 < m) (hr : Sl w B news) (h1 : ∀ u ∈ news, u.oneCell' = true)
    (h63 : n + m ≤ maxLen) (hb : (n + m) * bytes ≤ 140737488355328) (hbase : base ≤ w.heap.size)
    (h : ∀ A' c' w', w'.ownsRow base e size (.slice A' (n + m) c') (n + m) (xs ++ news) → w.grownBy w' (Value.slice A n c).ownBlock → ((Value.slice A' (n + m) c').ownBlock = (Value.slice A n c).ownBlock ∨ (Value.slice A' (n + m) c').ownBlock = some w.heap.size) → Below base w w' → K (a.put o.dst (.slice A' (n + m) c')) w') :
    if Region.wanted o (yielded ops a.tmps) = true then Oper.wp P o a w K Q else Z := by
  have hw : Region.wanted o (yielded ops a.tmps) = true := by simp [Region.wanted, hgd]
  rw [if_pos hw]
  obtain ⟨A', c', w', hrun, h2, h3, h5, h4⟩ := run_app2 (P := P) (w := w) (ty := o.type) E (d := d) hown hl hm hr h1 h63 hb hbase
  unfold Oper.wp execOp
  simp only [ho, resolve, invoke, builtin, Sem.run_bind, Sem.run_pure, Result.andThen_ok, List.map_toArray, List.map_cons, List.map_nil, hs, hx, hrun]
  exact h A' c' w' h2 h3 h5 h4
end
theorem own_far1 {w : World} {base e size n : Nat} {v : Value} {xs : List Value} (h : w.ownsRow base e size v n xs) {p : Addr} (hp : v.ownBlock ≠ some p.block) (u : Value) : (w.setCell p u).ownsRow base e size v n xs := by
  obtain ⟨h1, h2⟩ := h
  refine ⟨h1, ?_⟩
  rcases h2 with h2 | ⟨g, cap, cur, hv, hg, hh, hr⟩
  · exact .inl h2
  · refine .inr ⟨g, cap, cur, hv, hg, ?_, hr⟩
    rw [Below.heap_setCell]
    · exact hh
    · intro e
      subst hv
      subst e
      exact hp rfl
theorem own_type {w : World} {base e size n g t : Nat} {v : Value} {xs : List Value} {cs : Array Value} {fr : Nat × Nat} (h : w.ownsRow base e size v n xs) (hg : w.heap[g]? = some (.cells cs t fr)) (hne : e ≠ t) : v.ownBlock ≠ some g := by
  rcases h.2 with ⟨rfl, _⟩ | ⟨g', cap, cur, rfl, _, hh, _⟩
  · simp [Value.ownBlock]
  · simp only [Value.ownBlock, ne_eq, Option.some.injEq]
    intro e1
    subst e1
    rw [hg] at hh
    injection hh with hh
    injection hh with _ e2
    exact hne e2.symm
theorem Bk.grown {w w' : World} {b : Nat} {cs : Array Value} {row : Option Nat} (h : Bk w b cs) (hg : w.grownBy w' row) (hne : row ≠ some b) : Bk w' b cs := by
  have hk := hg.block b h.1 (fun e => hne e.symm)
  exact ⟨Nat.lt_of_lt_of_le h.1 hg.size, fun o => (World.cell?_of_block (a := ⟨b, o, none⟩) hk).trans (h.2 o)⟩
theorem Bk.far1 {w : World} {b : Nat} {cs : Array Value} (h : Bk w b cs) {p : Addr} (hp : p.block ≠ b) (u : Value) : Bk (w.setCell p u) b cs := by
  refine ⟨by simpa using h.1, fun o => ?_⟩
  rw [cell_set, if_neg (fun e => hp (by rw [e]))]
  exact h.2 o
end Go.Proofs.YtahdmomadbbhoaaGreat
end
