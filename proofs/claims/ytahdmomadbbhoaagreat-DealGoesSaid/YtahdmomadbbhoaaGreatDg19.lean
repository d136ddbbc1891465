import Derived.Test.YtahdmomadbbhoaaGreatDg18
section
namespace Go.Proofs.YtahdmomadbbhoaaGreat
open Go.ChangeShapes Go.WideShapes Go.ChangeAt Go.RowKit
set_option linter.unusedVariables false
set_option linter.unusedSimpArgs false

theorem EBg : Elem Tryz.prog 149 50 2 32 := Elem.mk' (z := .agg #[.bool false, .slice none 0 0]) (by kernel_rfl) (by kernel_rfl) (by decide) (by decide)
theorem wpList_mk8 {w : World} {ops : Array Oper} {rest : List Oper} {o : Oper} {a : Act} {Q : Exit → Act → World → Prop} (hg : o.guard = none) (hop : o.op = Op.makeSlice 149 (.const (.int .i64 8)) (.const (.int .i64 8)))
    (h : ∀ w', w'.ownsRow w.heap.size 50 2 (.slice (some ⟨w.heap.size, 0, none⟩) 8 8) 8 (rc Bg.cells (List.replicate 8 Bg.zero)) → Below w.heap.size w w' → wpList Tryz.prog ops Q rest (a.put o.dst (.slice (some ⟨w.heap.size, 0, none⟩) 8 8)) w') :
    wpList Tryz.prog ops Q (o :: rest) a w := by
  have hi : (Tryz.prog.info? 50).map (fun i => (i.zero, i.size, i.bytes)) = some (some (.agg #[.bool false, .slice none 0 0]), 2, 32) := by kernel_rfl
  obtain ⟨i, h1, h2, h3, h4⟩ := info_parts hi
  refine wpList_make_full w hg _ _ _ hop w.heap.size _ i (.agg #[.bool false, .slice none 0 0]) 2 EBg.und h1 h2 h3 .i64 .i64 8 8 8 rfl rfl rfl rfl (by rw [h4]; decide) (by decide) (Nat.le_refl _) fun w' r1 r2 => h w' ?_ (below_of_grown r2 (Nat.le_refl _) (by simp))
  have e : (madeCells (Value.agg #[.bool false, .slice none 0 0]).cells (8 * 2)).toList = rc Bg.cells (List.replicate 8 Bg.zero) := by kernel_rfl
  rw [e] at r1
  exact r1
theorem rc_set_bg : ∀ (l : List Bg) (k : Nat) (h : k < l.length) (x : Bg), ((rc Bg.cells l).set (k * 2) (.bool x.s)).set (k * 2 + 1) (.slice x.A x.n x.c) = rc Bg.cells (l.set k x)
  | [], k, h, _ => by simp at h
  | a :: l, 0, _, x => by simp [rc, Bg.cells]
  | a :: l, k + 1, h, x => by
    have ih := rc_set_bg l k (by simpa using h) x
    rw [List.set_cons_succ, rc_cons, rc_cons, ← ih]
    have e1 : (k + 1) * 2 = k * 2 + 1 + 1 := by omega
    rw [e1]
    simp [Bg.cells]
theorem own_set_bg {w : World} {base g n c : Nat} {l : List Bg} (h : w.ownsRow base 50 2 (.slice (some ⟨g, 0, none⟩) n c) n (rc Bg.cells l)) {k : Nat} (hk : k < l.length) (x : Bg) :
    ((w.setCell ⟨g, k * 2, none⟩ (.bool x.s)).setCell ⟨g, k * 2 + 1, none⟩ (.slice x.A x.n x.c)).ownsRow base 50 2 (.slice (some ⟨g, 0, none⟩) n c) n (rc Bg.cells (l.set k x)) := by
  have hl := rc_length Bg.len l
  have h1 := own_set1 h (k := k * 2) (by omega) (.bool x.s)
  have h2 := own_set1 h1 (k := k * 2 + 1) (by rw [List.length_set]; omega) (.slice x.A x.n x.c)
  rw [rc_set_bg l k hk x] at h2
  exact h2
theorem BgF.congr {w : World} {g : Nat} {B : List Bg} {f f' : Nat → Int} (h : BgF w g B f) (e : ∀ j, j < B.length → f j = f' j) : BgF w g B f' := fun j hj => by rw [← e j hj]; exact h j hj
theorem BgF.zero (w : World) (g : Nat) : BgF w g (List.replicate 8 Bg.zero) (fun _ => 0) := fun j hj => by
  rw [List.getElem_replicate]
  exact ⟨BigAt.zero w, fun b o h => by cases h⟩
def sumG (S : List (RowS Lg)) (i : Nat) (j : Nat) : Int := ((S.take i).map fun s => getG s.l ((j : Int) + 1)).sum
theorem sumG_zero (S : List (RowS Lg)) (j : Nat) : sumG S 0 j = 0 := rfl
theorem sumG_succ (S : List (RowS Lg)) {i : Nat} (h : i < S.length) (j : Nat) : sumG S (i + 1) j = sumG S i j + getG S[i].l ((j : Int) + 1) := by
  unfold sumG
  rw [List.take_succ_eq_append_getElem h, List.map_append, List.sum_append]; simp
theorem getG_in {l : List Lg} (h : ∀ y ∈ l, In64 y.qty) (i : Int) : In64 (getG l i) := by
  unfold getG pickL
  cases hf : l.find? (inG i) with
  | none => simp [Lg.zero]; decide
  | some y => exact h y (List.mem_of_find?_eq_some hf)
theorem sumG_bd {S : List (RowS Lg)} (h : ∀ s ∈ S, ∀ y ∈ s.l, In64 y.qty) (j : Nat) : ∀ i, i ≤ S.length → -(i : Int) * 9223372036854775808 ≤ sumG S i j ∧ sumG S i j ≤ (i : Int) * 9223372036854775808
  | 0, _ => by rw [sumG_zero]; simp
  | i + 1, hi => by
    have ih := sumG_bd h j i (by omega)
    have h1 := getG_in (h _ (List.getElem_mem (show i < S.length by omega))) ((j : Int) + 1)
    rw [sumG_succ S (by omega)]
    unfold In64 at h1
    omega
theorem sumG_in {S : List (RowS Lg)} (h : ∀ s ∈ S, ∀ y ∈ s.l, In64 y.qty) (hl : S.length ≤ 1000) (j i : Nat) (hi : i ≤ S.length) : In128 (sumG S i j) := by
  have := sumG_bd h j i hi
  unfold In128
  omega
open Classical in
noncomputable def addR (S : List (RowS Lg)) : Int × List Lg := if ∀ s ∈ S, isG s.l = true then ofR ((List.range 8).map fun j => sumG S S.length j) else (3, [])
structure KeepA (w : World) (B : List Bg) (f : Nat → Int) (V : World) : Prop where
  bel : Below w.heap.size w V
  own : V.ownsRow w.heap.size 50 2 (.slice (some ⟨w.heap.size, 0, none⟩) 8 8) 8 (rc Bg.cells B)
  num : BgF V (w.heap.size + 1) B f
  lt : w.heap.size < V.heap.size
theorem KeepA.step {w V V' : World} {B : List Bg} {f : Nat → Int} (h : KeepA w B f V) (hb : Below V.heap.size V V') : KeepA w B f V' :=
  ⟨since_step h.bel hb, own_below h.own hb, h.num.below hb, Nat.lt_of_lt_of_le h.lt hb.size⟩
theorem KeepA.drew {w V : World} {B : List Bg} {f : Nat → Int} (h : KeepA w B f V) : KeepA w B f V.drew := h.step ⟨rfl, rfl, rfl, Nat.le_refl _, fun _ _ => rfl⟩
theorem KeepA.got {w V : World} {B : List Bg} {f : Nat → Int} (h : KeepA w B f V) {k : Nat} (hk : k < B.length) : V.cell? ⟨w.heap.size, k * 2, none⟩ = some (.bool B[k].s) ∧ V.cell? ⟨w.heap.size, k * 2 + 1, none⟩ = some (.slice B[k].A B[k].n B[k].c) ∧ (∀ i, V.frozen? ⟨w.heap.size, i, none⟩ = false) := by
  obtain ⟨b, o, e, _, g0, g1⟩ := (Sl.of_own h.own).bg hk
  injection e with e
  injection e with e1 e2
  subst e1; subst e2
  rw [Nat.zero_add] at g0 g1
  exact ⟨g0, g1, (own_slice_g h.own).2.2.1⟩
theorem KeepA.set {w V : World} {B : List Bg} {f f' : Nat → Int} (h : KeepA w B f V) {k : Nat} (hk : k < B.length) {x : Bg} {z : Int} (hx : BigAt V x.s x.A x.n x.c z) (hf : Fr (w.heap.size + 1) x.A x.n) (he : ∀ j, j < B.length → (if j = k then z else f j) = f' j) :
    KeepA w (B.set k x) f' ((V.setCell ⟨w.heap.size, k * 2, none⟩ (.bool x.s)).setCell ⟨w.heap.size, k * 2 + 1, none⟩ (.slice x.A x.n x.c)) := by
  refine ⟨Below.setCell (Below.setCell h.bel (p := ⟨w.heap.size, k * 2, none⟩) (Nat.le_refl _) _) (p := ⟨w.heap.size, k * 2 + 1, none⟩) (Nat.le_refl _) _, own_set_bg h.own hk x, ?_, by simpa using h.lt⟩
  have hn := (h.num.far (p := ⟨w.heap.size, k * 2, none⟩) (Nat.lt_succ_self _) (.bool x.s)).far (p := ⟨w.heap.size, k * 2 + 1, none⟩) (Nat.lt_succ_self _) (.slice x.A x.n x.c)
  have hx2 : BigAt ((V.setCell ⟨w.heap.size, k * 2, none⟩ (.bool x.s)).setCell ⟨w.heap.size, k * 2 + 1, none⟩ (.slice x.A x.n x.c)) x.s x.A x.n x.c z :=
    (hx.far (fun b o hA hn => by have := hf b o hA hn; show b ≠ w.heap.size; omega) _).far (fun b o hA hn => by have := hf b o hA hn; show b ≠ w.heap.size; omega) _
  exact (hn.set (k := k) (x := x) hx2 hf).congr (by simpa using he)
set_option maxHeartbeats 8000000 in
set_option maxRecDepth 100000 in
theorem radd_any (A : Option Addr) (cap : Nat) (S : List (RowS Lg)) (w : World) (hl : S.length ≤ 1000) (hn : ∀ s ∈ S, s.l.length ≤ 1000000) (hq : ∀ s ∈ S, ∀ y ∈ s.l, In64 y.qty) (hs : Sl w A (rc RowS.cells S)) (ho : RowsOk w Lg.cells S) :
    Calls Tryz.prog 100 #[.slice A S.length cap] w fun e w' => GRes w.heap.size w' e (addR S) ∧ Below w.heap.size w w' := by
  have HN := Lib.hid hn
  have HQ := Lib.hid hq
  have H128 : Hid (∀ i j, i ≤ S.length → In128 (sumG S i j)) := Lib.hid fun i j h => sumG_in hq hl j i h
  have HBAD : Hid (∀ i, (h : i < S.length) → isG S[i].l = false → addR S = (3, [])) := Lib.hid fun i h hb => by
    unfold addR
    rw [if_neg (fun h2 => by rw [h2 _ (List.getElem_mem h)] at hb; cases hb)]
  have HEND : Hid ((∀ j, (hj : j < S.length) → isG S[j].l = true) → addR S = ofR ((List.range 8).map fun j => sumG S S.length j)) := Lib.hid fun h => by
    unfold addR
    rw [if_pos fun s hs => by obtain ⟨j, hj, rfl⟩ := List.getElem_of_mem hs; exact h j hj]
  generalize addR S = RR at *
  clear hn hq
  go_enter Tryz.func100, Tryz.ntmps100
  go_wp2_with (first | (at_make; refine wpList_mk8 rfl rfl ?_; intro w1 own1 hb1) | fail)
  have hK0 : KeepA w (List.replicate 8 Bg.zero) (sumG S 0) w1 := ⟨hb1, own1, (BgF.zero w1 _).congr fun j hj => rfl, (own_slice_g own1).2.1⟩
  clear own1 hb1
  go_loopw [5] (fun iv wr => ∃ (i : Nat) (B : List Bg), i ≤ S.length ∧ iv = .int .i64 i ∧ (∀ j, (hj : j < S.length) → j < i → isG S[j].l = true) ∧ B.length = 8 ∧ KeepA w B (sumG S i) wr) (fun iv _ => S.length - (intOf iv).toNat)
  case atStart => exact ⟨0, _, by omega, rfl, fun j hj h => absurd h (by omega), rfl, hK0⟩
  case round =>
    obtain ⟨i, B, hi, rfl, hno, hB8, hA⟩ := hrel
    clear hK0
    by_cases hlt : i < S.length
    · have hli : (i : Int) < (S.length : Int) := by omega
      have HNX : Hid (isG S[i].l = true → ∀ j, (hj : j < S.length) → j < i + 1 → isG S[j].l = true) := Lib.hid (fun h j hj hjk => by
        rcases Nat.lt_or_ge j i with h' | h'
        · exact hno j hj h'
        · obtain rfl : j = i := by omega
          exact h)
      have HBD := Lib.hid (HBAD.out i hlt)
      have HSU : Hid (∀ j, sumG S (i + 1) j = sumG S i j + getG S[i].l ((j : Int) + 1)) := Lib.hid fun j => sumG_succ S hlt j
      have hll := HN.out _ (List.getElem_mem hlt)
      have HQ6 := Lib.hid (HQ.out _ (List.getElem_mem hlt))
      obtain ⟨b, o, rfl, hbw, hg⟩ := hs.rowS hlt
      have hin := ho S[i] (List.getElem_mem hlt)
      obtain ⟨s, hs1⟩ : ∃ s, S[i] = s := ⟨_, rfl⟩
      rw [hs1] at hll hin hg HBD HNX HQ6
      simp only [hs1] at HSU
      have HG : Hid (∀ V, Below w.heap.size w V → V.cell? ⟨b, o + i, none⟩ = some (.slice s.A s.l.length s.c)) := Lib.hid fun V hV => (hV.cell (p := ⟨b, o + i, none⟩) hbw).trans hg
      have HIN : Hid (∀ V, Below w.heap.size w V → Sl V s.A (rc Lg.cells s.l)) := Lib.hid fun V hV => hin.below hV
      have HIS := Lib.hid (fun V h => rvis_any s.A s.c s.l V hll h)
      have HGT := Lib.hid (fun i V h => rvget_any s.A s.c s.l i V hll h)
      have hge : (0 : Int) ≤ (i : Int) := by omega
      clear hno hs1 hin hg
      cases hq : isG s.l with
      | false =>
        have HE := Lib.hid (HBD.out hq)
        rw [hq] at HIS
        clear hq HBD HNX
        have g2 := HG.out _ hA.bel
        go_wp2_with fail
        refine (HIS.out _ (HIN.out _ hA.bel)).mono ?_
        rintro e w2 ⟨rfl, hb⟩
        have hB2 := since_step hA.bel hb
        go_wp2_with fail
        go_ret2
        rw [HE.out]
        exact ⟨GRes.nil _ _ _, hB2⟩
      | true =>
        have HN1 := Lib.hid (HNX.out hq)
        rw [hq] at HIS
        clear hq HBD HNX
        have g2 := HG.out _ hA.bel
        go_wp2_with fail
        refine (HIS.out _ (HIN.out _ hA.bel)).mono ?_
        rintro e w2 ⟨rfl, hb⟩
        have hAs := hA.step hb
        clear hb g2 HIS hA
        generalize wr = wz at *
        go_wp2_with fail
        go_loopw [6] (fun kv wr => ∃ (k : Nat) (B : List Bg), k ≤ 8 ∧ kv = .int .i64 k ∧ B.length = 8 ∧ KeepA w B (fun j => sumG S i j + if j < k then getG s.l ((j : Int) + 1) else 0) wr) (fun kv _ => 8 - (intOf kv).toNat)
        case atStart => exact ⟨0, B, by omega, rfl, hB8, ⟨hAs.bel, hAs.own, hAs.num.congr fun j _ => by simp, hAs.lt⟩⟩
        case round =>
          clear hAs hB8
          obtain ⟨k, B2, hk, rfl, hB8, hA⟩ := hrel
          by_cases hlt2 : k < 8
          · have hlk : (k : Int) < 8 := by omega
            have hgk : (0 : Int) ≤ (k : Int) := by omega
            have hk8 : k < B2.length := by omega
            have hw1 : IntKind.i64.wrap ((k : Int) + 1) = (k : Int) + 1 := IntWalk.i64_in _ (by omega)
            obtain ⟨x, hBk⟩ : ∃ x, B2[k] = x := ⟨_, rfl⟩
            have hq6 := getG_in HQ6.out ((k : Int) + 1)
            have HGK := Lib.hid (HGT.out ((k : Int) + 1))
            have hf1 : sumG S i k + (if k < k then getG s.l ((k : Int) + 1) else 0) = sumG S i k := by simp
            have h128 := H128.out i k (by omega)
            obtain ⟨q, hqq⟩ : ∃ q, getG s.l ((k : Int) + 1) = q := ⟨_, rfl⟩
            have HEE : Hid (∀ j, j < B2.length → (if j = k then sumG S i k + q else sumG S i j + if j < k then getG s.l ((j : Int) + 1) else 0) = sumG S i j + if j < k + 1 then getG s.l ((j : Int) + 1) else 0) := Lib.hid fun j hj => by
              by_cases e : j = k
              · subst e; rw [if_pos rfl, if_pos (by omega), hqq]
              · rw [if_neg e]
                by_cases e2 : j < k
                · rw [if_pos e2, if_pos (by omega)]
                · rw [if_neg e2, if_neg (by omega)]
            rw [hqq] at hq6 HGK
            have HX6 : Hid (∀ V, KeepA w B2 (fun j => sumG S i j + if j < k then getG s.l ((j : Int) + 1) else 0) V → BigAt V x.s x.A x.n x.c (sumG S i k)) := Lib.hid fun V hV => by
              have := (hV.num k hk8).1
              rw [hBk] at this
              simpa using this
            have HGOT : Hid (∀ V, KeepA w B2 (fun j => sumG S i j + if j < k then getG s.l ((j : Int) + 1) else 0) V → V.cell? ⟨w.heap.size, k * 2, none⟩ = some (.bool x.s) ∧ V.cell? ⟨w.heap.size, k * 2 + 1, none⟩ = some (.slice x.A x.n x.c) ∧ V.frozen? ⟨w.heap.size, k * 2, none⟩ = false ∧ V.frozen? ⟨w.heap.size, k * 2 + 1, none⟩ = false) := Lib.hid fun V hV => by
              obtain ⟨a1, a2, a3⟩ := hV.got hk8
              rw [hBk] at a1 a2
              exact ⟨a1, a2, a3 _, a3 _⟩
            have HQ64 := Lib.hid hq6
            have HF128 := Lib.hid h128
            have HOF := Lib.hid (fun V => bof_any q V hq6)
            have HSET : Hid (∀ V s2 A2 m2 k2, KeepA w B2 (fun j => sumG S i j + if j < k then getG s.l ((j : Int) + 1) else 0) V → BigAt V s2 A2 m2 k2 (sumG S i k + q) → Fr (w.heap.size + 1) A2 m2 → KeepA w (B2.set k ⟨s2, A2, m2, k2⟩) (fun j => sumG S i j + if j < k + 1 then getG s.l ((j : Int) + 1) else 0) ((V.setCell ⟨w.heap.size, k * 2, none⟩ (.bool s2)).setCell ⟨w.heap.size, k * 2 + 1, none⟩ (.slice A2 m2 k2))) := Lib.hid fun V s2 A2 m2 k2 hV hy hf => hV.set hk8 (x := ⟨s2, A2, m2, k2⟩) hy hf HEE.out
            have HB8 : Hid (∀ x, (B2.set k x).length = 8) := Lib.hid fun x => by rw [List.length_set]; exact hB8
            generalize sumG S i k = z at *
            obtain ⟨KA, hKE⟩ : ∃ KA, KeepA w B2 (fun j => sumG S i j + if j < k then getG s.l ((j : Int) + 1) else 0) = KA := ⟨_, rfl⟩
            obtain ⟨KC, hKC⟩ : ∃ KC : Bg → World → Prop, (fun x => KeepA w (B2.set k x) (fun j => sumG S i j + if j < k + 1 then getG s.l ((j : Int) + 1) else 0)) = KC := ⟨_, rfl⟩
            have HST : Hid (∀ V V', KA V → Below V.heap.size V V' → KA V') := Lib.hid fun V V' h hb => by rw [← hKE] at h ⊢; exact h.step hb
            have HBE : Hid (∀ V, KA V → Below w.heap.size w V ∧ w.heap.size < V.heap.size) := Lib.hid fun V h => by rw [← hKE] at h; exact ⟨h.bel, h.lt⟩
            have HKC : Hid (∀ x V, KC x V → KeepA w (B2.set k x) (fun j => sumG S i j + if j < k + 1 then getG s.l ((j : Int) + 1) else 0) V) := Lib.hid fun x V h => by rw [← hKC] at h; exact h
            have HSET2 : Hid (∀ V s2 A2 m2 k2, KA V → BigAt V s2 A2 m2 k2 (z + q) → Fr (w.heap.size + 1) A2 m2 → KC ⟨s2, A2, m2, k2⟩ ((V.setCell ⟨w.heap.size, k * 2, none⟩ (.bool s2)).setCell ⟨w.heap.size, k * 2 + 1, none⟩ (.slice A2 m2 k2))) := Lib.hid fun V s2 A2 m2 k2 hV hy hf => by rw [← hKE] at hV; rw [← hKC]; exact HSET.out V s2 A2 m2 k2 hV hy hf
            rw [hKE] at hA HX6 HGOT
            have hKA : KA wr.drew := HST.out _ _ hA ⟨rfl, rfl, rfl, Nat.le_refl _, fun _ _ => rfl⟩
            have hBel := (HBE.out _ hA).1
            clear HSET HEE hKE hKC hBk hqq hf1 h128 hq6 hB8 hk8 hA
            go_wp2_with fail
            refine wp_region_held_drew (S := (fun V => Below w.heap.size w V)) (by kernel_rfl) (by exact hBel.drew) (fun hHeld => ?_)
            refine tkZ (i := 0) (oi := ⟨some 24, _, _, _, _, _⟩) (v := ?_) rfl (by kernel_rfl) (fun _ _ _ h => h) (Or.inl ⟨by rfl, ?_⟩) hHeld ?_
            rotate_left
            · (intro w hSw; have g2 := HG.out _ hSw; go_simp <;> with_reducible rfl)
            try simp only [pqZ]
            refine tkZ (i := 1) (oi := ⟨some 25, _, _, _, _, _⟩) (v := ?_) rfl (by kernel_rfl) (fun _ _ _ h => h) (Or.inl ⟨by rfl, ?_⟩) hHeld ?_
            rotate_left
            · (intro w hSw; have g2 := HG.out _ hSw; go_simp <;> with_reducible rfl)
            try simp only [pqZ]
            refine tkZ (i := 2) (oi := ⟨some 26, _, _, _, _, _⟩) (v := ?_) rfl (by kernel_rfl) (fun _ _ _ h => h) (Or.inl ⟨by rfl, ?_⟩) hHeld ?_
            rotate_left
            · (intro w hSw; have g2 := HG.out _ hSw; go_simp <;> with_reducible rfl)
            try simp only [pqZ]
            refine tkZ (i := 3) (oi := ⟨some 27, _, _, _, _, _⟩) (v := ?_) rfl (by kernel_rfl) (fun _ _ _ h => h) (Or.inl ⟨by rfl, ?_⟩) hHeld ?_
            rotate_left
            · (intro w hSw; have g2 := HG.out _ hSw; go_simp <;> with_reducible rfl)
            try simp only [pqZ]
            refine tkZ (i := 4) (oi := ⟨some 28, _, _, _, _, _⟩) (v := ?_) rfl (by kernel_rfl) (fun _ _ _ h => h) (Or.inl ⟨by rfl, ?_⟩) hHeld ?_
            rotate_left
            · (intro w hSw; have g2 := HG.out _ hSw; go_simp <;> with_reducible rfl)
            try simp only [pqZ]
            refine tkZ (i := 6) (oi := ⟨some 30, _, _, _, _, _⟩) (v := ?_) rfl (by kernel_rfl) (fun _ _ _ h => h) (Or.inl ⟨by rfl, ?_⟩) hHeld ?_
            rotate_left
            · (intro w hSw; have g2 := HG.out _ hSw; go_simp <;> with_reducible rfl)
            try simp only [pqZ]
            refine tkZ (i := 7) (oi := ⟨some 31, _, _, _, _, _⟩) (v := ?_) rfl (by kernel_rfl) (fun _ _ _ h => h) (Or.inl ⟨by rfl, ?_⟩) hHeld ?_
            rotate_left
            · (intro w hSw; have g2 := HG.out _ hSw; go_simp <;> with_reducible rfl)
            try simp only [pqZ]
            refine tkZ (i := 8) (oi := ⟨some 32, _, _, _, _, _⟩) (v := ?_) rfl (by kernel_rfl) (fun _ _ _ h => h) (Or.inl ⟨by rfl, ?_⟩) hHeld ?_
            rotate_left
            · (intro w hSw; have g2 := HG.out _ hSw; go_simp <;> with_reducible rfl)
            try simp only [pqZ]
            refine tkZ (i := 9) (oi := ⟨some 33, _, _, _, _, _⟩) (v := ?_) rfl (by kernel_rfl) (fun _ _ _ h => h) (Or.inl ⟨by rfl, ?_⟩) hHeld ?_
            rotate_left
            · (intro w hSw; have g2 := HG.out _ hSw; go_simp <;> with_reducible rfl)
            try simp only [pqZ]
            refine tkZ (i := 10) (oi := ⟨some 34, _, _, _, _, _⟩) (v := ?_) rfl (by kernel_rfl) (fun _ _ _ h => h) (Or.inl ⟨by rfl, ?_⟩) hHeld ?_
            rotate_left
            · (intro w hSw; have g2 := HG.out _ hSw; go_simp <;> with_reducible rfl)
            try simp only [pqZ]
            refine tkZ (i := 11) (oi := ⟨some 35, _, _, _, _, _⟩) (v := ?_) rfl (by kernel_rfl) (fun _ _ _ h => h) (Or.inl ⟨by rfl, ?_⟩) hHeld ?_
            rotate_left
            · (intro w hSw; have g2 := HG.out _ hSw; go_simp <;> with_reducible rfl)
            try simp only [pqZ]
            refine wpAnyH_ready (rs := [5, 12]) (by kernel_rfl) (by simp) ?_
            refine AllReadyH.cons (o := ⟨some 29, _, _, _, _, _⟩) rfl (fun K hK => ?_) (AllReadyH.cons (o := ⟨some 36, _, _, _, _, _⟩) rfl (fun K hK => ?_) AllReadyH.nil)
            · have hHd := hHeld
              have g2 := HG.out _ hHd
              obtain ⟨g0, g1, z0, z1⟩ := HGOT.out _ hKA
              have hKeep := hHeld
              go_simp
              refine hK.out _ _ (by (try dsimp only); exact hKeep) (fun hHeld => ?_)
              clear hK K hKeep
              try simp only [pqZ]
              refine wpAnyH_ready (rs := [12]) (by kernel_rfl) (by simp) ?_
              refine AllReadyH.cons (o := ⟨some 36, _, _, _, _, _⟩) rfl (fun K hK => ?_) AllReadyH.nil
              go_simp
              refine (HGK.out _ (HIN.out _ hHeld)).mono ?_
              rintro e u1 ⟨rfl, hk1⟩
              have hKeep := since_step hHeld hk1
              have hKA := HST.out _ _ hKA hk1
              go_wp2_with fail
              refine hK.out _ _ (by (try dsimp only); exact hKeep) (fun hHeld => ?_)
              clear hK K hKeep
              try simp only [pqZ]
              refine wpAnyH_ready (rs := [13]) (by kernel_rfl) (by simp) ?_
              refine AllReadyH.cons (o := ⟨some 37, _, _, _, _, _⟩) rfl (fun K hK => ?_) AllReadyH.nil
              go_simp
              refine (HOF.out _).mono ?_
              rintro e u2 ⟨⟨s1, A1, m1, k1, rfl, hf1, Y1⟩, hk2⟩
              have hKeep := since_step hHeld hk2
              have hKA := HST.out _ _ hKA hk2
              have L1 := Y1.l64 HQ64.out
              go_wp2_with fail
              refine hK.out _ _ (by (try dsimp only); exact hKeep) (fun hHeld => ?_)
              clear hK K hKeep
              try simp only [pqZ]
              refine wpAnyH_ready (rs := [14]) (by kernel_rfl) (by simp) ?_
              refine AllReadyH.cons (o := ⟨some 38, _, _, _, _, _⟩) rfl (fun K hK => ?_) AllReadyH.nil
              go_simp
              have hX6 := HX6.out _ hKA
              have L6 := hX6.l128 HF128.out
              have hlu := (HBE.out _ hKA).2
              refine (badd' (by omega) (by omega) hX6 Y1).mono ?_
              rintro e u3 ⟨⟨s2, A2, m2, k2, rfl, hf2, Y2⟩, hk3⟩
              have hKeep := since_step hHeld hk3
              have hKA := HST.out _ _ hKA hk3
              go_wp2_with fail
              refine hK.out _ _ (by (try dsimp only); exact hKeep) (fun hHeld => ?_)
              clear hK K hKeep
              try simp only [pqZ]
              refine tkZ (i := 15) (oi := ⟨some 39, _, _, _, _, _⟩) (v := ?_) rfl (by kernel_rfl) (fun _ _ _ h => h) (Or.inl ⟨by rfl, ?_⟩) hHeld ?_
              rotate_left
              · (intro w hSw; have g2 := HG.out _ hSw; go_simp <;> with_reducible rfl)
              try simp only [pqZ]
              refine wpAnyH_ready (rs := [16]) (by kernel_rfl) (by simp) ?_
              refine AllReadyH.cons (o := ⟨none, _, _, _, _, _⟩) rfl (fun K hK => ?_) AllReadyH.nil
              have hHd := hHeld
              have g2 := HG.out _ hHd
              obtain ⟨g0, g1, z0, z1⟩ := HGOT.out _ hKA
              have hF : Fr (w.heap.size + 1) A2 m2 := hf2.le (by omega) (Nat.le_refl _)
              have hCN := HSET2.out _ s2 A2 m2 k2 hKA Y2 hF
              have hKeep := Below.setCell (Below.setCell hHeld (p := ⟨w.heap.size, k * 2, none⟩) (Nat.le_refl _) (.bool s2)) (p := ⟨w.heap.size, k * 2 + 1, none⟩) (Nat.le_refl _) (.slice A2 m2 k2)
              skip
              go_simp
              refine hK.out _ _ (by (try dsimp only); exact hKeep) (fun hHeld => ?_)
              clear hK K hKeep
              try simp only [pqZ]
              refine wpAnyH_done (by kernel_rfl) ?_ _
              generalize hFW : ((u3.setCell ⟨w.heap.size, k * 2, none⟩ (.bool s2)).setCell ⟨w.heap.size, k * 2 + 1, none⟩ (.slice A2 m2 k2)) = FW at *
              have hA2 := HKC.out _ _ hCN
              clear hFW hCN
              go_wp2_with fail
              go_roundw
              case rel => exact ⟨k + 1, B2.set k ⟨s2, A2, m2, k2⟩, by omega, by go_num, HB8.out _, hA2⟩
              case measure => simp [intOf]; omega
            · go_simp
              refine (HGK.out _ (HIN.out _ hHeld)).mono ?_
              rintro e u1 ⟨rfl, hk1⟩
              have hKeep := since_step hHeld hk1
              have hKA := HST.out _ _ hKA hk1
              go_wp2_with fail
              refine hK.out _ _ (by (try dsimp only); exact hKeep) (fun hHeld => ?_)
              clear hK K hKeep
              try simp only [pqZ]
              refine wpAnyH_ready (rs := [5, 13]) (by kernel_rfl) (by simp) ?_
              refine AllReadyH.cons (o := ⟨some 29, _, _, _, _, _⟩) rfl (fun K hK => ?_) (AllReadyH.cons (o := ⟨some 37, _, _, _, _, _⟩) rfl (fun K hK => ?_) AllReadyH.nil)
              · have hHd := hHeld
                have g2 := HG.out _ hHd
                obtain ⟨g0, g1, z0, z1⟩ := HGOT.out _ hKA
                have hKeep := hHeld
                go_simp
                refine hK.out _ _ (by (try dsimp only); exact hKeep) (fun hHeld => ?_)
                clear hK K hKeep
                try simp only [pqZ]
                refine wpAnyH_ready (rs := [13]) (by kernel_rfl) (by simp) ?_
                refine AllReadyH.cons (o := ⟨some 37, _, _, _, _, _⟩) rfl (fun K hK => ?_) AllReadyH.nil
                go_simp
                refine (HOF.out _).mono ?_
                rintro e u2 ⟨⟨s1, A1, m1, k1, rfl, hf1, Y1⟩, hk2⟩
                have hKeep := since_step hHeld hk2
                have hKA := HST.out _ _ hKA hk2
                have L1 := Y1.l64 HQ64.out
                go_wp2_with fail
                refine hK.out _ _ (by (try dsimp only); exact hKeep) (fun hHeld => ?_)
                clear hK K hKeep
                try simp only [pqZ]
                refine wpAnyH_ready (rs := [14]) (by kernel_rfl) (by simp) ?_
                refine AllReadyH.cons (o := ⟨some 38, _, _, _, _, _⟩) rfl (fun K hK => ?_) AllReadyH.nil
                go_simp
                have hX6 := HX6.out _ hKA
                have L6 := hX6.l128 HF128.out
                have hlu := (HBE.out _ hKA).2
                refine (badd' (by omega) (by omega) hX6 Y1).mono ?_
                rintro e u3 ⟨⟨s2, A2, m2, k2, rfl, hf2, Y2⟩, hk3⟩
                have hKeep := since_step hHeld hk3
                have hKA := HST.out _ _ hKA hk3
                go_wp2_with fail
                refine hK.out _ _ (by (try dsimp only); exact hKeep) (fun hHeld => ?_)
                clear hK K hKeep
                try simp only [pqZ]
                refine tkZ (i := 15) (oi := ⟨some 39, _, _, _, _, _⟩) (v := ?_) rfl (by kernel_rfl) (fun _ _ _ h => h) (Or.inl ⟨by rfl, ?_⟩) hHeld ?_
                rotate_left
                · (intro w hSw; have g2 := HG.out _ hSw; go_simp <;> with_reducible rfl)
                try simp only [pqZ]
                refine wpAnyH_ready (rs := [16]) (by kernel_rfl) (by simp) ?_
                refine AllReadyH.cons (o := ⟨none, _, _, _, _, _⟩) rfl (fun K hK => ?_) AllReadyH.nil
                have hHd := hHeld
                have g2 := HG.out _ hHd
                obtain ⟨g0, g1, z0, z1⟩ := HGOT.out _ hKA
                have hF : Fr (w.heap.size + 1) A2 m2 := hf2.le (by omega) (Nat.le_refl _)
                have hCN := HSET2.out _ s2 A2 m2 k2 hKA Y2 hF
                have hKeep := Below.setCell (Below.setCell hHeld (p := ⟨w.heap.size, k * 2, none⟩) (Nat.le_refl _) (.bool s2)) (p := ⟨w.heap.size, k * 2 + 1, none⟩) (Nat.le_refl _) (.slice A2 m2 k2)
                skip
                go_simp
                refine hK.out _ _ (by (try dsimp only); exact hKeep) (fun hHeld => ?_)
                clear hK K hKeep
                try simp only [pqZ]
                refine wpAnyH_done (by kernel_rfl) ?_ _
                generalize hFW : ((u3.setCell ⟨w.heap.size, k * 2, none⟩ (.bool s2)).setCell ⟨w.heap.size, k * 2 + 1, none⟩ (.slice A2 m2 k2)) = FW at *
                have hA2 := HKC.out _ _ hCN
                clear hFW hCN
                go_wp2_with fail
                go_roundw
                case rel => exact ⟨k + 1, B2.set k ⟨s2, A2, m2, k2⟩, by omega, by go_num, HB8.out _, hA2⟩
                case measure => simp [intOf]; omega
              · go_simp
                refine (HOF.out _).mono ?_
                rintro e u2 ⟨⟨s1, A1, m1, k1, rfl, hf1, Y1⟩, hk2⟩
                have hKeep := since_step hHeld hk2
                have hKA := HST.out _ _ hKA hk2
                have L1 := Y1.l64 HQ64.out
                go_wp2_with fail
                refine hK.out _ _ (by (try dsimp only); exact hKeep) (fun hHeld => ?_)
                clear hK K hKeep
                try simp only [pqZ]
                refine wpAnyH_ready (rs := [5]) (by kernel_rfl) (by simp) ?_
                refine AllReadyH.cons (o := ⟨some 29, _, _, _, _, _⟩) rfl (fun K hK => ?_) AllReadyH.nil
                have hHd := hHeld
                have g2 := HG.out _ hHd
                obtain ⟨g0, g1, z0, z1⟩ := HGOT.out _ hKA
                have hKeep := hHeld
                go_simp
                refine hK.out _ _ (by (try dsimp only); exact hKeep) (fun hHeld => ?_)
                clear hK K hKeep
                try simp only [pqZ]
                refine wpAnyH_ready (rs := [14]) (by kernel_rfl) (by simp) ?_
                refine AllReadyH.cons (o := ⟨some 38, _, _, _, _, _⟩) rfl (fun K hK => ?_) AllReadyH.nil
                go_simp
                have hX6 := HX6.out _ hKA
                have L6 := hX6.l128 HF128.out
                have hlu := (HBE.out _ hKA).2
                refine (badd' (by omega) (by omega) hX6 Y1).mono ?_
                rintro e u3 ⟨⟨s2, A2, m2, k2, rfl, hf2, Y2⟩, hk3⟩
                have hKeep := since_step hHeld hk3
                have hKA := HST.out _ _ hKA hk3
                go_wp2_with fail
                refine hK.out _ _ (by (try dsimp only); exact hKeep) (fun hHeld => ?_)
                clear hK K hKeep
                try simp only [pqZ]
                refine tkZ (i := 15) (oi := ⟨some 39, _, _, _, _, _⟩) (v := ?_) rfl (by kernel_rfl) (fun _ _ _ h => h) (Or.inl ⟨by rfl, ?_⟩) hHeld ?_
                rotate_left
                · (intro w hSw; have g2 := HG.out _ hSw; go_simp <;> with_reducible rfl)
                try simp only [pqZ]
                refine wpAnyH_ready (rs := [16]) (by kernel_rfl) (by simp) ?_
                refine AllReadyH.cons (o := ⟨none, _, _, _, _, _⟩) rfl (fun K hK => ?_) AllReadyH.nil
                have hHd := hHeld
                have g2 := HG.out _ hHd
                obtain ⟨g0, g1, z0, z1⟩ := HGOT.out _ hKA
                have hF : Fr (w.heap.size + 1) A2 m2 := hf2.le (by omega) (Nat.le_refl _)
                have hCN := HSET2.out _ s2 A2 m2 k2 hKA Y2 hF
                have hKeep := Below.setCell (Below.setCell hHeld (p := ⟨w.heap.size, k * 2, none⟩) (Nat.le_refl _) (.bool s2)) (p := ⟨w.heap.size, k * 2 + 1, none⟩) (Nat.le_refl _) (.slice A2 m2 k2)
                skip
                go_simp
                refine hK.out _ _ (by (try dsimp only); exact hKeep) (fun hHeld => ?_)
                clear hK K hKeep
                try simp only [pqZ]
                refine wpAnyH_done (by kernel_rfl) ?_ _
                generalize hFW : ((u3.setCell ⟨w.heap.size, k * 2, none⟩ (.bool s2)).setCell ⟨w.heap.size, k * 2 + 1, none⟩ (.slice A2 m2 k2)) = FW at *
                have hA2 := HKC.out _ _ hCN
                clear hFW hCN
                go_wp2_with fail
                go_roundw
                case rel => exact ⟨k + 1, B2.set k ⟨s2, A2, m2, k2⟩, by omega, by go_num, HB8.out _, hA2⟩
                case measure => simp [intOf]; omega
          · obtain rfl : k = 8 := by omega
            have hK2 : KeepA w B2 (sumG S (i + 1)) wr := ⟨hA.bel, hA.own, hA.num.congr (fun j hj => by rw [HSU.out, if_pos (by omega)]), hA.lt⟩
            clear hA
            go_wp2_with fail
            go_roundw
            case rel => exact ⟨i + 1, B2, by omega, by go_num, HN1.out, hB8, hK2⟩
            case measure => simp [intOf]; omega
    · obtain rfl : i = S.length := by omega
      have HE := Lib.hid (HEND.out (fun j hj => hno j hj hj))
      have hOF := rof_any (some ⟨w.heap.size, 0, none⟩) 8 (w.heap.size + 1) B ((List.range 8).map fun j => sumG S S.length j) wr (by omega) (by rw [hB8]; rfl)
        (fun z hz => by obtain ⟨j, _, rfl⟩ := List.mem_map.1 hz; exact H128.out _ j (Nat.le_refl _)) (Sl.of_own hA.own)
        (hA.num.congr fun j hj => by
          have h8 : j < 8 := by omega
          rw [List.getD_eq_getElem?_getD, List.getElem?_map, List.getElem?_range h8]; rfl)
      rw [hB8] at hOF
      have HOF := Lib.hid hOF
      have hBel := hA.bel
      have hlt9 := hA.lt
      generalize ofR ((List.range 8).map fun j => sumG S S.length j) = RO at *
      clear hno hOF hA
      go_wp2_with fail
      refine HOF.out.mono ?_
      rintro e w2 ⟨⟨A2, c2, rfl, own2⟩, hb⟩
      have hB2 := since_step hBel hb
      have own2 := own_base own2 (base' := w.heap.size) (by omega)
      go_wp2_with fail
      go_ret2
      rw [HE.out]
      exact ⟨⟨A2, c2, rfl, own2⟩, hB2⟩
end Go.Proofs.YtahdmomadbbhoaaGreat
end
