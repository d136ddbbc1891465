import Derived.Test.YtahdmomadbbhoaaGreatDg12
import Derived.Test.YtahdmomadbbhoaaGreatDg19
section
namespace Go.Proofs.YtahdmomadbbhoaaGreat
open Go.ChangeShapes Go.WideShapes Go.ChangeAt Go.RowKit
set_option linter.unusedVariables false
set_option linter.unusedSimpArgs false

theorem getG_cons (x : Lg) (r : List Lg) (i : Int) : getG (x :: r) i = if x.ins = i then x.qty else getG r i := by
  unfold getG pickL
  rw [List.find?_cons]
  by_cases h : x.ins = i
  · rw [if_pos h, show inG i x = true by simp [inG, h]]; rfl
  · rw [if_neg h, show inG i x = false by simp [inG, h]]
theorem getG_none {l : List Lg} {i : Int} (h : ∀ x ∈ l, x.ins ≠ i) : getG l i = 0 := by
  induction l with
  | nil => rfl
  | cons x r ih => rw [getG_cons, if_neg (h x (by simp)), ih (fun y hy => h y (by simp [hy]))]
abbrev SoG (l : List Lg) : Prop := l.Pairwise (fun a b => a.ins < b.ins)
theorem risingG : ∀ l : List Lg, risingL ahG l = true ↔ SoG l
  | [] => by simp [risingL]
  | [a] => by simp [risingL]
  | a :: b :: r => by
    have ih := risingG (b :: r)
    simp only [risingL, Bool.and_eq_true, ih, ahG, decide_eq_true_eq]
    constructor
    · rintro ⟨h1, h2⟩
      refine List.Pairwise.cons ?_ h2
      intro c hc
      rcases List.mem_cons.1 hc with rfl | hc
      · exact h1
      · have := List.rel_of_pairwise_cons h2 hc
        omega
    · intro h
      exact ⟨List.rel_of_pairwise_cons h (by simp), h.of_cons⟩
theorem isG_iff (l : List Lg) : isG l = true ↔ (∀ x ∈ l, 1 ≤ x.ins ∧ x.ins ≤ 8 ∧ x.qty ≠ 0) ∧ SoG l := by
  unfold isG
  rw [Bool.and_eq_true, List.all_eq_true, risingG]
  refine and_congr_left fun _ => ⟨fun h x hx => ?_, fun h x hx => ?_⟩
  · have := h x hx
    unfold okG at this
    simp only [Bool.and_eq_true, decide_eq_true_eq, Bool.not_eq_true', beq_eq_false_iff_ne] at this
    exact ⟨this.1.1, this.1.2, this.2⟩
  · obtain ⟨h1, h2, h3⟩ := h x hx
    unfold okG
    simp [h1, h2, h3]
theorem legs_back : ∀ (n : Nat) (i : Int) (l : List Lg), SoG l → (∀ x ∈ l, i ≤ x.ins ∧ x.ins < i + n ∧ x.qty ≠ 0) → legsF i ((List.range n).map fun j : Nat => getG l (i + (j : Int))) = l
  | 0, i, [], _, _ => rfl
  | 0, i, x :: r, _, h => by have := h x (by simp); omega
  | n + 1, i, l, hs, h => by
    rw [List.range_succ_eq_map, List.map_cons, List.map_map, legsF]
    have e0 : i + ((0 : Nat) : Int) = i := by simp
    rw [e0]
    have ef : ∀ m : List Lg, ((fun j : Nat => getG m (i + (j : Int))) ∘ Nat.succ) = fun j : Nat => getG m (i + 1 + (j : Int)) := fun m => by
      funext j
      simp only [Function.comp]
      congr 1
      omega
    rw [ef]
    cases l with
    | nil =>
      rw [show getG [] i = 0 from rfl, if_pos rfl, legs_back n (i + 1) [] hs (fun x hx => by cases hx)]; rfl
    | cons x r =>
      obtain ⟨h1, h2, h3⟩ := h x (by simp)
      by_cases hx : x.ins = i
      · rw [getG_cons, if_pos hx, if_neg h3]
        have e2 : (List.range n).map (fun j : Nat => getG (x :: r) (i + 1 + (j : Int))) = (List.range n).map fun j : Nat => getG r (i + 1 + (j : Int)) := by
          refine List.map_congr_left fun j _ => ?_
          rw [getG_cons, if_neg (by omega)]
        rw [e2, legs_back n (i + 1) r hs.of_cons fun y hy => ?_]
        · obtain ⟨a, b⟩ := x
          simp only at hx
          subst hx
          rfl
        · have := List.rel_of_pairwise_cons hs hy
          have := h y (by simp [hy])
          omega
      · rw [getG_none (l := x :: r) (i := i) (fun y hy => by
          rcases List.mem_cons.1 hy with rfl | hy
          · exact hx
          · have := List.rel_of_pairwise_cons hs hy; omega), if_pos rfl, List.nil_append]
        refine legs_back n (i + 1) (x :: r) hs fun y hy => ?_
        have := h y hy
        rcases List.mem_cons.1 hy with rfl | hy2
        · omega
        · have := List.rel_of_pairwise_cons hs hy2
          omega
def negG (l : List Lg) : List Lg := l.map fun x => ⟨x.ins, -x.qty⟩
theorem getG_neg (l : List Lg) (i : Int) : getG (negG l) i = -getG l i := by
  induction l with
  | nil => rfl
  | cons x r ih =>
    rw [show negG (x :: r) = ⟨x.ins, -x.qty⟩ :: negG r from rfl, getG_cons, getG_cons, ih]
    split <;> simp
theorem negG_so {l : List Lg} (h : SoG l) : SoG (negG l) := by
  unfold negG
  exact List.pairwise_map.2 h
theorem ofR_getG {l : List Lg} (hs : SoG l) (h : ∀ x ∈ l, 1 ≤ x.ins ∧ x.ins ≤ 8 ∧ x.qty ≠ 0) (h6 : ∀ x ∈ l, In64 x.qty) : ofR ((List.range 8).map fun j : Nat => getG l ((j : Int) + 1)) = (0, l) := by
  have e := legs_back 8 1 l hs (fun x hx => by have := h x hx; omega)
  have e2 : ((List.range 8).map fun j : Nat => getG l ((j : Int) + 1)) = (List.range 8).map fun j : Nat => getG l (1 + (j : Int)) := List.map_congr_left fun j _ => by rw [Int.add_comm]
  rw [e2]
  unfold ofR
  rw [if_pos, e]
  intro q hq
  obtain ⟨j, _, rfl⟩ := List.mem_map.1 hq
  exact getG_in h6 _
theorem getG_mem {l : List Lg} (hs : SoG l) {x : Lg} (hx : x ∈ l) : getG l x.ins = x.qty := by
  induction l with
  | nil => cases hx
  | cons y r ih =>
    rw [getG_cons]
    rcases List.mem_cons.1 hx with rfl | hx
    · rw [if_pos rfl]
    · have := List.rel_of_pairwise_cons hs hx
      rw [if_neg (by omega), ih hs.of_cons hx]
open Classical in
noncomputable def negR (l : List Lg) : Int × List Lg := if isG l = false then (3, []) else if ∀ x ∈ l, In64 (-x.qty) then (0, negG l) else (7, [])
theorem negR_of {l : List Lg} (h : isG l = true) : ofR ((List.range 8).map fun j : Nat => -getG l ((j : Int) + 1)) = negR l := by
  obtain ⟨h1, h2⟩ := (isG_iff l).1 h
  unfold negR
  rw [if_neg (by rw [h]; simp)]
  by_cases h6 : ∀ x ∈ l, In64 (-x.qty)
  · rw [if_pos h6]
    have e := ofR_getG (negG_so h2) (fun x hx => by
      obtain ⟨y, hy, rfl⟩ := List.mem_map.1 hx
      have := h1 y hy
      simp only
      omega) (fun x hx => by
      obtain ⟨y, hy, rfl⟩ := List.mem_map.1 hx
      exact h6 y hy)
    simp only [getG_neg] at e
    exact e
  · rw [if_neg h6]
    unfold ofR
    rw [if_neg]
    intro hq
    refine h6 fun x hx => ?_
    obtain ⟨a1, a2, _⟩ := h1 x hx
    have := hq (-getG l (((x.ins - 1).toNat : Int) + 1)) (List.mem_map.2 ⟨(x.ins - 1).toNat, List.mem_range.2 (by omega), rfl⟩)
    rw [show (((x.ins - 1).toNat : Int) + 1) = x.ins by omega, getG_mem h2 hx] at this
    exact this
set_option maxHeartbeats 8000000 in
set_option maxRecDepth 100000 in
theorem rvneg_any (A : Option Addr) (cap : Nat) (l : List Lg) (w : World) (hl : l.length ≤ 900000) (h6 : ∀ y ∈ l, In64 y.qty) (hs : Sl w A (rc Lg.cells l)) :
    Calls Tryz.prog 68 #[.slice A l.length cap] w fun e w' => GRes w.heap.size w' e (negR l) ∧ Below w.heap.size w w' := by
  have HIS := rvis_any A cap l w (by omega) hs
  cases hi : isG l with
  | false =>
    have HE : Hid (negR l = (3, [])) := Lib.hid (by unfold negR; rw [if_pos hi])
    rw [hi] at HIS
    clear hi
    go_enter Tryz.func68, Tryz.ntmps68
    go_wp2_with fail
    refine HIS.mono ?_
    rintro e w1 ⟨rfl, hb⟩
    go_wp2_with fail
    go_ret2
    rw [HE.out]
    exact ⟨GRes.nil _ _ _, hb⟩
  | true =>
    have HE := Lib.hid (negR_of hi)
    have HG6 : Hid (∀ i, In64 (getG l i)) := Lib.hid fun i => getG_in h6 i
    have HGT := Lib.hid (fun i V h => rvget_any A cap l i V (by omega) h)
    rw [hi] at HIS
    clear hi h6
    go_enter Tryz.func68, Tryz.ntmps68
    go_wp2_with fail
    refine HIS.mono ?_
    rintro e w0 ⟨rfl, hb0⟩
    have hs0 := hs.below hb0
    have hz0 := hb0.size
    clear HIS
    go_wp2_with (first | (at_make; refine wpList_mk8 rfl rfl ?_; intro w1 own1 hb1) | fail)
    have hK0 : KeepA w0 (List.replicate 8 Bg.zero) (fun j => if j < 0 then -getG l ((j : Int) + 1) else 0) w1 := ⟨hb1, own1, (BgF.zero w1 _).congr fun j hj => by simp, (own_slice_g own1).2.1⟩
    clear own1 hb1
    go_loopw [5] (fun kv wr => ∃ (k : Nat) (B : List Bg), k ≤ 8 ∧ kv = .int .i64 k ∧ B.length = 8 ∧ KeepA w0 B (fun j => if j < k then -getG l ((j : Int) + 1) else 0) wr) (fun kv _ => 8 - (intOf kv).toNat)
    case atStart => exact ⟨0, _, by omega, rfl, rfl, hK0⟩
    case round =>
      obtain ⟨k, B, hk, rfl, hB8, hA⟩ := hrel
      clear hK0
      by_cases hlt : k < 8
      · have hlk : (k : Int) < 8 := by omega
        have hgk : (0 : Int) ≤ (k : Int) := by omega
        have hk8 : k < B.length := by omega
        have hw1 : IntKind.i64.wrap ((k : Int) + 1) = (k : Int) + 1 := IntWalk.i64_in _ (by omega)
        have hq6 := HG6.out ((k : Int) + 1)
        have HGK := Lib.hid (HGT.out ((k : Int) + 1))
        obtain ⟨q, hqq⟩ : ∃ q, getG l ((k : Int) + 1) = q := ⟨_, rfl⟩
        have HEE : Hid (∀ j, j < B.length → (if j = k then -q else if j < k then -getG l ((j : Int) + 1) else 0) = if j < k + 1 then -getG l ((j : Int) + 1) else 0) := Lib.hid fun j hj => by
          by_cases e : j = k
          · subst e; rw [if_pos rfl, if_pos (by omega), hqq]
          · rw [if_neg e]
            by_cases e2 : j < k
            · rw [if_pos e2, if_pos (by omega)]
            · rw [if_neg e2, if_neg (by omega)]
        rw [hqq] at hq6 HGK
        have HOF := Lib.hid (fun V => bof_any q V hq6)
        have HQ64 := Lib.hid hq6
        have HB8 : Hid (∀ x, (B.set k x).length = 8) := Lib.hid fun x => by rw [List.length_set]; exact hB8
        clear hqq hq6
        go_wp2_with fail
        refine (HGK.out _ (hs0.below hA.bel)).mono ?_
        rintro e u1 ⟨rfl, hk1⟩
        have hA := hA.step hk1
        clear hk1
        go_wp2_with fail
        refine (HOF.out _).mono ?_
        rintro e u2 ⟨⟨s1, A1, m1, k1, rfl, hf1, Y1⟩, hk2⟩
        have hlu := hA.lt
        have hA := hA.step hk2
        have L1 := Y1.l64 HQ64.out
        clear hk2
        obtain rfl := Y1.neg_iff
        go_wp2_with fail
        have HNG := bneg_any q A1 m1 k1 u2 (by omega) Y1
        obtain ⟨sg, hsg⟩ : ∃ sg, decide (-q < 0) = sg := ⟨_, rfl⟩
        rw [hsg] at HNG
        clear hsg
        refine HNG.mono ?_
        rintro e u3 ⟨⟨n3, c3, rfl, hn3, Y3⟩, hk3⟩
        have hA := hA.step hk3
        have hF : Fr (w0.heap.size + 1) A1 n3 := hf1.le (by omega) hn3
        obtain ⟨g0, g1, hfz⟩ := hA.got hk8
        have z0 := hfz (k * 2)
        have z1 := hfz (k * 2 + 1)
        have hA2 := hA.set hk8 (x := ⟨sg, A1, n3, c3⟩) Y3 hF HEE.out
        simp only at hA2
        clear hk3 hfz hA
        go_wp2_with fail
        generalize hFW : ((u3.setCell ⟨w0.heap.size, k * 2, none⟩ (.bool (sg))).setCell ⟨w0.heap.size, k * 2 + 1, none⟩ (.slice A1 n3 c3)) = FW at *
        clear hFW
        go_roundw
        case rel => exact ⟨k + 1, B.set k ⟨sg, A1, n3, c3⟩, by omega, by go_num, HB8.out _, hA2⟩
        case measure => simp [intOf]; omega
      · obtain rfl : k = 8 := by omega
        have hOF := rof_any (some ⟨w0.heap.size, 0, none⟩) 8 (w0.heap.size + 1) B ((List.range 8).map fun j : Nat => -getG l ((j : Int) + 1)) wr (by omega) (by rw [hB8]; rfl)
          (fun z hz => by obtain ⟨j, _, rfl⟩ := List.mem_map.1 hz; have := HG6.out ((j : Int) + 1); unfold In64 at this; unfold In128; omega) (Sl.of_own hA.own)
          (hA.num.congr fun j hj => by
            have h8 : j < 8 := by omega
            rw [List.getD_eq_getElem?_getD, List.getElem?_map, List.getElem?_range h8, if_pos h8]; rfl)
        rw [hB8, HE.out] at hOF
        have HOF := Lib.hid hOF
        have hBel := hA.bel
        have hlt9 := hA.lt
        obtain ⟨RO, hRO⟩ : ∃ RO, negR l = RO := ⟨_, rfl⟩
        rw [hRO] at HOF
        have HE2 := Lib.hid hRO
        clear hOF hA HE hRO
        go_wp2_with fail
        refine HOF.out.mono ?_
        rintro e w2 ⟨⟨A2, c2, rfl, own2⟩, hb⟩
        have hB2 := since_step hBel hb
        have own2 := own_base own2 (base' := w.heap.size) (by omega)
        go_wp2_with fail
        go_ret2
        rw [HE2.out]
        exact ⟨⟨A2, c2, rfl, own2⟩, hb0.trans (hB2.mono hz0)⟩
set_option maxHeartbeats 8000000 in
set_option maxRecDepth 100000 in
theorem vneg_any (A : Option Addr) (cap : Nat) (l : List Lg) (w : World) (hl : l.length ≤ 900000) (h6 : ∀ y ∈ l, In64 y.qty) (hs : Sl w A (rc Lg.cells l)) :
    Calls Tryz.prog 63 #[.slice A l.length cap] w fun e w' => GRes w.heap.size w' e (negR l) ∧ Below w.heap.size w w' := by
  have HIS := vis_any A cap l w (by omega) hs
  cases hi : isG l with
  | false =>
    have HE : Hid (negR l = (3, [])) := Lib.hid (by unfold negR; rw [if_pos hi])
    rw [hi] at HIS
    clear hi
    go_enter Tryz.func63, Tryz.ntmps63
    go_wp2_with fail
    refine HIS.mono ?_
    rintro e w1 ⟨rfl, hb⟩
    go_wp2_with fail
    go_ret2
    rw [HE.out]
    exact ⟨GRes.nil _ _ _, hb⟩
  | true =>
    have HBAD : Hid (∀ k, (h : k < l.length) → ¬ In64 (-l[k].qty) → negR l = (7, [])) := Lib.hid fun k h hb => by
      unfold negR
      rw [if_neg (by rw [hi]; simp), if_neg (fun h2 => hb (h2 _ (List.getElem_mem h)))]
    have HEND : Hid ((∀ j, (hj : j < l.length) → In64 (-l[j].qty)) → negR l = (0, negG l)) := Lib.hid fun h => by
      unfold negR
      rw [if_neg (by rw [hi]; simp), if_pos fun x hx => by obtain ⟨j, hj, rfl⟩ := List.getElem_of_mem hx; exact h j hj]
    have HQ := Lib.hid h6
    generalize negR l = RR at *
    rw [hi] at HIS
    clear hi h6
    go_enter Tryz.func63, Tryz.ntmps63
    go_wp2_with fail
    refine HIS.mono ?_
    rintro e w0 ⟨rfl, hb0⟩
    have hs0 := hs.below hb0
    have hz0 := hb0.size
    clear HIS
    go_wp2_with (first | (at_make; refine wpList_mk rfl (.const (.int .i64 0)) (.tmp 13) rfl ELg l.length rfl rfl rfl (by omega) (by unfold maxLen; omega) (Nat.le_refl _) ?_; intro w1 own1 hb1) | fail)
    go_loopw [4, 17] (fun ov i wr => ∃ (k : Nat) (A2 : Option Addr) (c2 : Nat), k ≤ l.length ∧ i = .int .i64 k ∧ ov = .slice A2 (negG (l.take k)).length c2 ∧ wr.ownsRow w0.heap.size 75 2 (.slice A2 (negG (l.take k)).length c2) (negG (l.take k)).length (rc Lg.cells (negG (l.take k))) ∧ (∀ j, (hj : j < l.length) → j < k → In64 (-l[j].qty)) ∧ Below w0.heap.size w0 wr) (fun _ i _ => l.length - (intOf i).toNat)
    case atStart => exact ⟨0, _, _, by omega, rfl, rfl, own1, fun j hj h => absurd h (by omega), hb1⟩
    case round =>
      clear own1 hb1
      obtain ⟨k, A2, c2, hk, rfl, rfl, own2, hin, hB⟩ := hrel
      by_cases hlt : k < l.length
      · obtain ⟨b, o, rfl, hbw, hg⟩ := (hs0.below hB).lg hlt
        have hlk : (k : Int) < (l.length : Int) := by omega
        have hx6 := HQ.out _ (List.getElem_mem hlt)
        have HBK := Lib.hid (HBAD.out k hlt)
        have HNX : Hid (In64 (-l[k].qty) → ∀ j, (hj : j < l.length) → j < k + 1 → In64 (-l[j].qty)) := Lib.hid (fun h j hj hjk => by
          rcases Nat.lt_or_ge j k with h' | h'
          · exact hin j hj h'
          · obtain rfl : j = k := by omega
            exact h)
        have HT : Hid (negG (l.take (k + 1)) = negG (l.take k) ++ [⟨l[k].ins, -l[k].qty⟩]) := Lib.hid (by unfold negG; rw [List.take_succ_eq_append_getElem hlt, List.map_append]; rfl)
        have hRl : (negG (l.take k)).length ≤ 900000 := by unfold negG; rw [List.length_map, List.length_take]; omega
        have hA := since_alloc hB (.cells l[k].cells.toArray 75)
        obtain ⟨v, hv⟩ : ∃ v, l[k] = v := ⟨_, rfl⟩
        obtain ⟨R, hR⟩ : ∃ R, negG (l.take k) = R := ⟨_, rfl⟩
        rw [hv] at hg hx6 HBK HNX HT hA
        rw [hR] at own2 HT hRl ⊢
        obtain ⟨va, vq⟩ := v
        obtain ⟨g0, g1⟩ := hg
        unfold Lg.cells at hA
        simp only at g0 g1 hx6 HBK HNX HT hA
        have HSB := Lib.hid (fun V => fsub_any 0 vq (by unfold In64; omega) hx6 V)
        have e0 : (0 : Int) - vq = -vq := by omega
        rw [e0] at HSB
        have hZ := Bk.new wr #[.int .i64 va, .int .i64 vq] 75
        have own2 := own2.alloc (.cells #[.int .i64 va, .int .i64 vq] 75)
        clear hin hv hR e0 hx6 hbw
        by_cases h64 : In64 (-vq)
        · have h1 : fV (-vq) = -vq := if_pos h64
          have h2 : fE (-vq) = 0 := if_pos h64
          rw [h1, h2] at HSB
          have HN := Lib.hid (HNX.out h64)
          clear h1 h2 h64 HBK HNX
          go_wp2_with fail
          refine (HSB.out _).mono ?_
          rintro e w2 ⟨rfl, hb⟩
          have hB2 := since_step hA hb
          have hZ := hZ.below hb
          have own2 := own_below own2 hb
          have hsz := hB2.size
          obtain ⟨lb, cb⟩ := id hZ
          have q0 := cb 0
          have q1 := cb 1
          simp at q0 q1
          clear cb hb g0 g1
          go_wp2_with (first
            | (at_builtin; refine wpList_app rfl (.tmp 30) (.tmp 35) rfl ELg rfl rfl (own2.alloc _) (m := 1) (news := (⟨va, -vq⟩ : Lg).cells) rfl (Sl.new_ _ _ _) (Lg.one _) (by unfold maxLen; omega) (by omega) (by simp only [World.size_alloc]; omega) ?_; intro A3 c3 w3 own3 hg3 hb3)
            | fail)
          have hB3 := (since_alloc hB2 (.cells #[.int .i64 va, .int .i64 (-vq)] 75)).trans hb3
          go_roundw
          case rel => exact ⟨k + 1, A3, c3, by omega, by go_num, by rw [HT.out, List.length_append]; rfl, by rw [HT.out, List.length_append, rc_append]; simpa [rc] using own3, HN.out, hB3⟩
          case measure => simp [intOf]; omega
        · have h1 : fV (-vq) = 0 := if_neg h64
          have h2 : fE (-vq) = 7 := if_neg h64
          rw [h1, h2] at HSB
          have HE := Lib.hid (HBK.out h64)
          clear h1 h2 h64 HBK HNX
          go_wp2_with fail
          refine (HSB.out _).mono ?_
          rintro e w2 ⟨rfl, hb⟩
          have hB2 := since_step hA hb
          go_wp2_with fail
          go_ret2
          rw [HE.out]
          exact ⟨GRes.nil _ _ _, hb0.trans (hB2.mono hz0)⟩
      · obtain rfl : k = l.length := by omega
        have HE := Lib.hid (HEND.out fun j hj => hin j hj hj)
        rw [List.take_length] at own2 ⊢
        clear hin
        go_wp2_with fail
        go_ret2
        rw [HE.out]
        exact ⟨⟨A2, c2, rfl, own_base own2 hz0⟩, hb0.trans (hB.mono hz0)⟩
end Go.Proofs.YtahdmomadbbhoaaGreat
end
section
namespace Go.Proofs.YtahdmomadbbhoaaGreat
open Go.ChangeShapes Go.WideShapes Go.ChangeAt Go.RowKit
set_option linter.unusedVariables false
set_option linter.unusedSimpArgs false

theorem EI64 : Elem Tryz.prog 24 2 1 8 := Elem.mk' (z := .int .i64 0) (by kernel_rfl) (by kernel_rfl) (by decide) (by decide)
end Go.Proofs.YtahdmomadbbhoaaGreat
end
