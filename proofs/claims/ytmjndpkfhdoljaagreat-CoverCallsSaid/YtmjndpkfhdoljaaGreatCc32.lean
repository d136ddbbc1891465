import Derived.Test.YtmjndpkfhdoljaaGreatCc31
set_option maxHeartbeats 16000000
set_option maxRecDepth 100000
set_option linter.unusedVariables false
set_option linter.unusedSimpArgs false
namespace Go.Proofs.YtmjndpkfhdoljaaGreat
open Go.ChangeShapes Go.WideShapes Go.ChangeAt Go.RowKit
section
def ahQ (x y : Ac) : Bool := decide (x.id < y.id)
def idQ (id : Int) (x : Ac) : Bool := x.id == id
def findQ (l : List Ac) (id : Int) : Ac := pickL (idQ id) Ac.zero l
def hasQ (l : List Ac) (id : Int) : Bool := (l.find? (idQ id)).isSome
theorem casesQ (l : List Ac) (id : Int) : (hasQ l id = false ∧ atL (idQ id) l = -1 ∧ findQ l id = Ac.zero ∧ l.find? (idQ id) = none) ∨ ∃ k : Nat, ∃ hk : k < l.length, hasQ l id = true ∧ atL (idQ id) l = k ∧ findQ l id = l[k] ∧ idQ id l[k] = true ∧ ∀ j, (hj : j < k) → idQ id (l[j]'(by omega)) = false := by
  rcases atL_cases (idQ id) l with ⟨h0, hno⟩ | ⟨k, hk, h0, hpk, hno⟩
  · have hf := find_none hno
    exact .inl ⟨by rw [hasQ, hf]; rfl, h0, by rw [findQ, pickL, hf]; rfl, hf⟩
  · have hf := find_some hk hno hpk
    exact .inr ⟨k, hk, by rw [hasQ, hf]; rfl, h0, by rw [findQ, pickL, hf]; rfl, hpk, hno⟩
def putQR (q : Bool) (l : List Ac) (v : Ac) : Int × List Ac := if ¬ (q = true) then (2, []) else if hasQ l v.id = true then (12, []) else (0, putR ahQ l v)
def QRes (B : Nat) (w' : World) (e : Ending) (R : Int × List Ac) : Prop :=
  ∃ A' c', e = .returned (.tuple #[.slice A' R.2.length c', .int .i64 R.1]) ∧ w'.ownsRow B 31 4 (.slice A' R.2.length c') R.2.length (rc Ac.cells R.2)
theorem QRes.nil (B : Nat) (w' : World) (n : Int) : QRes B w' (.returned (.tuple #[.slice none 0 0, .int .i64 n])) (n, []) := ⟨none, 0, rfl, own_nil _ _ _⟩
theorem boolQ_ext {a b : Bool} (h : a = true ↔ b = true) : a = b := by cases a <;> cases b <;> simp_all
theorem ordQ : Ord ahQ where
  tr := fun a b c h1 h2 => by simp only [ahQ, decide_eq_true_eq] at *; omega
  asy := fun a b h => by simp only [ahQ, decide_eq_true_eq, decide_eq_false_iff_not] at *; omega
  cong := fun a x b h1 h2 => boolQ_ext (by simp only [ahQ, decide_eq_true_eq, decide_eq_false_iff_not] at *; omega)
  cong2 := fun a x b h1 h2 => boolQ_ext (by simp only [ahQ, decide_eq_true_eq, decide_eq_false_iff_not] at *; omega)
theorem idQ_iff (id : Int) (x : Ac) : idQ id x = true ↔ x.id = id := by simp [idQ]
abbrev SortedQ (l : List Ac) : Prop := l.Pairwise (fun a b => ahQ a b = true)
theorem insQ {l : List Ac} (h : SortedQ l) (v : Ac) (hn : l.find? (idQ v.id) = none) :
    l.take (l.findIdx fun y => !ahQ y v) ++ v :: l.drop (l.findIdx fun y => !ahQ y v) = putR ahQ l v := by
  rw [← refPut_eq ordQ v l h]
  have e : (l.filter fun y => !eqv ahQ v y) = l := by
    rw [List.filter_eq_self]
    intro y hy
    rw [List.find?_eq_none] at hn
    have := hn y hy
    rw [idQ_iff] at this
    simp only [eqv, ahQ, Bool.not_eq_true', Bool.and_eq_false_iff, decide_eq_false_iff_not, decide_eq_true_eq, Bool.not_eq_false']
    omega
  unfold refPut
  rw [e]
def FindQRel (l : List Ac) (id : Int) (W0 : World) (i : Value) (wr : World) : Prop :=
  ∃ k : Nat, k ≤ l.length ∧ i = .int .i64 k ∧ (∀ j, (hj : j < l.length) → j < k → idQ id l[j] = false) ∧ Below W0.heap.size W0 wr
theorem rfindq_any (A : Option Addr) (cap : Nat) (l : List Ac) (id : Int) (w : World) (hl : l.length ≤ 1000000) (hs : Sl w A (rc Ac.cells l)) :
    Calls Tryz.prog 80 #[.slice A l.length cap, .int .i64 id] w fun e w' => e = .returned (.tuple #[(findQ l id).val, .bool (hasQ l id)]) ∧ Below w.heap.size w w' := by
  have hB0 := since_alloc (Below.refl w.heap.size w) (.cells #[.int .i64 0, .int .i64 0, .int .i64 0, .slice none 0 0] 31)
  have Bz0 := Bk.new w #[.int .i64 0, .int .i64 0, .int .i64 0, .slice none 0 0] 31
  have hfz0 : ∀ i, (w.alloc (.cells #[.int .i64 0, .int .i64 0, .int .i64 0, .slice none 0 0] 31)).frozen? ⟨w.heap.size, i, none⟩ = false := fun i => by simp
  have hs0 := hs.alloc (.cells #[.int .i64 0, .int .i64 0, .int .i64 0, .slice none 0 0] 31)
  go_enter Tryz.func80, Tryz.ntmps80
  go_upto_region 1 with fail
  generalize hWW : w.alloc (.cells #[.int .i64 0, .int .i64 0, .int .i64 0, .slice none 0 0] 31) = W0 at *
  clear hWW hs
  have hz1 : w.heap.size < W0.heap.size := Bz0.1
  have HZ : Hid (∀ V, Below W0.heap.size W0 V → Bk V w.heap.size #[.int .i64 0, .int .i64 0, .int .i64 0, .slice none 0 0] ∧ ∀ i, V.frozen? ⟨w.heap.size, i, none⟩ = false) := Lib.hid fun V hV =>
    ⟨Bz0.below hV, fun i => by rw [(hV.frozen (p := ⟨w.heap.size, i, none⟩) hz1)]; exact hfz0 i⟩
  clear Bz0 hfz0
  go_wp2_with fail
  go_loopw [6] (fun i wr => FindQRel l id W0 i wr) (fun i _ => l.length - (intOf i).toNat)
  case atStart => exact ⟨0, by omega, rfl, fun j hj h => absurd h (by omega), Below.refl _ _⟩
  case round =>
    obtain ⟨k, hk, rfl, hno, hB⟩ := hrel
    have hB3 := hB0.trans (hB.mono (Nat.le_of_lt hz1))
    obtain ⟨⟨lb, cb⟩, hfz⟩ := HZ.out wr hB
    have q0 := cb 0
    have q1 := cb 1
    have q2 := cb 2
    have q3 := cb 3
    simp at q0 q1 q2 q3
    have hcs := @cell_set
    clear cb
    by_cases hlt2 : k < l.length
    · obtain ⟨b, o, rfl, hbw, hg⟩ := hs0.ac hlt2
      have hg1 : l[k].at wr b (o + k * 4) := Ac.at_keep (w := W0) hg fun i => hB.cell (p := ⟨b, i, none⟩) hbw
      have HX : Hid (∀ q : Bool, idQ id l[k] = q → if q then findQ l id = l[k] ∧ hasQ l id = true else ∀ j, (hj : j < l.length) → j < k + 1 → idQ id l[j] = false) := Lib.hid fun q hq => by
        cases q with
        | true =>
          have := find_some hlt2 (fun j hj => hno j (by omega) hj) hq
          exact ⟨by rw [findQ, pickL, this]; rfl, by rw [hasQ, this]; rfl⟩
        | false =>
          intro j hj hjk
          rcases Nat.lt_or_ge j k with h | h
          · exact hno j hj h
          · obtain rfl : j = k := by omega
            exact hq
      have hlk : (k : Int) < (l.length : Int) := by omega
      clear hg hs0 hbw hno
      generalize l[k] = v at hg1 HX
      obtain ⟨vid, v1, v2, v3, v4, v5⟩ := v
      obtain ⟨g0, g1, g2, g3⟩ := hg1
      simp only at g0 g1 g2 g3
      by_cases h1 : vid = id
      · subst h1
        have HF := Lib.hid (show findQ l vid = _ ∧ hasQ l vid = true by simpa using HX.out true (by simp [idQ]))
        clear HX
        go_wp2_with fail
        refine bodyPost_ret (v := .tuple #[(⟨vid, v1, v2, v3, v4, v5⟩ : Ac).val, .bool true]) ?_ rfl ⟨?_, ?_⟩
        · simp [results, Tryz.results80, go_sem, q0, q1, q2, q3, hfz, Ac.val]
        · rw [HF.out.1, HF.out.2]
        · repeat' (first | with_reducible exact hB3 | with_reducible refine Below.drew ?_ | with_reducible refine Below.setCell ?_ ?_ _ | with_reducible refine Below.alloc ?_ ?_ _)
          all_goals exact Nat.le_refl _
      · have HN := Lib.hid (show ∀ j, (hj : j < l.length) → j < k + 1 → idQ id l[j] = false by simpa using HX.out false (by simp [idQ, h1]))
        have h1b : (vid == id) = false := by simpa using h1
        clear HX h1
        go_wp2_with fail
        go_roundw
        case rel => exact ⟨k + 1, by omega, by go_num, HN.out, hB⟩
        case measure => simp [intOf]; omega
    · have hfn := find_none (p := idQ id) fun j hj => hno j hj (by omega)
      have HF := Lib.hid (show findQ l id = Ac.zero ∧ hasQ l id = false from ⟨by rw [findQ, pickL, hfn]; rfl, by rw [hasQ, hfn]; rfl⟩)
      clear hno hfn HZ
      go_wp2_with fail
      refine bodyPost_ret (v := .tuple #[Ac.zero.val, .bool false]) ?_ rfl ⟨?_, ?_⟩
      · simp [results, Tryz.results80, go_sem, q0, q1, q2, q3, hfz, Ac.val, Ac.zero]
      · rw [HF.out.1, HF.out.2]
      · repeat' (first | with_reducible exact hB3 | with_reducible refine Below.setCell ?_ ?_ _ | with_reducible refine Below.alloc ?_ ?_ _)
        all_goals exact Nat.le_refl _
theorem Sl.drop0_Acct9 {w : World} {g n : Nat} {xs : List Value} (h : Sl w (some ⟨g, 0, none⟩) xs) : Sl w (some ⟨g, n, none⟩) (xs.drop n) := by
  intro hne
  obtain ⟨b, o, e, hc⟩ := h (by rintro rfl; simp at hne)
  injection e with e
  injection e with e1 e2 e3
  subst e1; subst e2
  refine ⟨g, n, rfl, fun j u hu => ?_⟩
  rw [List.getElem?_drop] at hu
  have := hc _ _ hu
  rwa [Nat.zero_add] at this
theorem findIdx_of_Acct9 {α : Type} {p : α → Bool} {l : List α} {k : Nat} (hk : k ≤ l.length) (h : ∀ j, (hj : j < l.length) → j < k → p l[j] = false) (he : ∀ hj : k < l.length, p l[k] = true) : l.findIdx p = k := by
  rcases Nat.lt_or_ge k l.length with h1 | h1
  · rw [List.findIdx_eq h1]
    exact ⟨he h1, fun j hj => h j (by omega) hj⟩
  · have e : k = l.length := by omega
    rw [e, List.findIdx_eq_length]
    intro x hx
    obtain ⟨j, hj, rfl⟩ := List.getElem_of_mem hx
    exact h j hj (by omega)
theorem own_capQ {w : World} {base : Nat} {e : TypeId} {size n c : Nat} {A : Option Addr} {xs : List Value} (h : w.ownsRow base e size (.slice A n c) n xs) : n ≤ c ∧ c ≤ maxLen := by
  rcases h.2 with ⟨hv, h0⟩ | ⟨g, cap, cur, hv, hg, hh, hnc, hcm, _⟩
  · injection hv with e1 e2 e3; subst e3; subst h0; exact ⟨Nat.le_refl _, by decide⟩
  · injection hv with e1 e2 e3; subst e3; exact ⟨hnc, hcm⟩
theorem rputq_any (B0 : Nat) (A : Option Addr) (cap : Nat) (l : List Ac) (x : Ac) (q : Bool) (w : World) (HQ : ∀ W, Below w.heap.size w W → Calls Tryz.prog 79 #[x.val] W fun e w' => e = .returned (.bool q) ∧ Below W.heap.size W w') (hl : l.length ≤ 900000) (hown : w.ownsRow B0 31 4 (.slice A l.length cap) l.length (rc Ac.cells l)) (hsd : SortedQ l) :
    Calls Tryz.prog 39 #[.slice A l.length cap, x.val] w fun e w' => QRes w.heap.size w' e (putQR q l x) ∧ Below w.heap.size w w' := by
  have hB0 := since_alloc (Below.refl _ w) (.cells x.cells.toArray 31)
  have hx0 := Ac.Bx.new w x
  have hown0 := hown.alloc (.cells x.cells.toArray 31)
  have HIS : Hid (∀ W, Below w.heap.size w W → Calls Tryz.prog 79 #[x.val] W fun e w' => e = .returned (.bool (decide (q = true))) ∧ Below W.heap.size W w') := Lib.hid (fun W h => by have := HQ W h; rwa [show decide (q = true) = q by simp])
  have HFD := Lib.hid (fun W h => rfindq_any A cap l x.id W (by omega) h)
  clear hown HQ
  by_cases hok : q = true
  rotate_left
  · have HI : Hid (decide (q = true) = false) := Lib.hid (decide_eq_false hok)
    have HR : Hid ((putQR q l x) = (2, [])) := Lib.hid (by rw [putQR, if_pos hok])
    clear hok
    unfold Ac.val at HIS ⊢
    go_enter Tryz.func39, Tryz.ntmps39
    go_wp2_with fail
    refine (HIS.out _ hB0).mono ?_
    rintro e w1 ⟨rfl, hb1⟩
    have hB1 := since_step hB0 hb1
    rw [HI.out]
    go_wp2_with fail
    go_ret2
    rw [HR.out]
    exact ⟨QRes.nil _ _ _, hB1⟩
  · have HI : Hid (decide (q = true) = true) := Lib.hid (decide_eq_true hok)
    rcases casesQ l x.id with ⟨hh, hat, hfz, hfn⟩ | ⟨kk, hkk, hh, hat, hfk, hid, hbefore⟩
    · have HPL : Hid (∀ k, k ≤ l.length → (∀ j, (hj : j < l.length) → j < k → ahQ l[j] x = true) → (∀ hj : k < l.length, ahQ l[k] x = false) → putQR q l x = (0, l.take k ++ x :: l.drop k)) := Lib.hid fun k hk h1 h2 => by
        have h9 := insQ hsd x hfn
        rw [findIdx_of_Acct9 hk (fun j hj hjk => by rw [h1 j hj hjk]; rfl) (fun hj => by rw [h2 hj]; rfl)] at h9
        rw [putQR, if_neg (by simpa using hok), if_neg (by rw [hh]; decide), h9]
      have HH := Lib.hid hh
      clear hok hh hat hfz hfn hsd
      unfold Ac.val at HIS ⊢
      go_enter Tryz.func39, Tryz.ntmps39
      go_wp2_with fail
      refine (HIS.out _ hB0).mono ?_
      rintro e w1 ⟨rfl, hb1⟩
      have hB1 := since_step hB0 hb1
      have hx1 := hx0.below hb1
      have hown1 := own_below hown0 hb1
      obtain ⟨x0, x1, x2, x3⟩ := hx1.got
      clear hb1
      rw [HI.out]
      go_wp2_with fail
      refine (HFD.out _ (Sl.of_own hown1)).mono ?_
      rintro e w2 ⟨rfl, hb2⟩
      have hB2' := since_step hB1 hb2
      have hx2 := hx1.below hb2
      have hown2' := own_below hown1 hb2
      clear x0 x1 x2 x3 hb2 hown1 hx1 hx0 hown0
      rw [HH.out]
      generalize findQ l x.id = fm
      unfold Ac.val
      have hB1 := since_alloc hB2' (.cells fm.cells.toArray 31)
      have hx1 := hx2.below ((Below.refl _ _).alloc (Nat.le_refl _) (.cells fm.cells.toArray 31))
      have hown := hown2'.alloc (.cells fm.cells.toArray 31)
      have hcs := @cell_set
      clear hB2' hx2 hown2'
      go_upto_region 6 with fail
      unfold Ac.cells at hB1 hx1 hown
      generalize hWW : w2.alloc (.cells #[.int .i64 fm.id, .int .i64 fm.mem, .int .i64 fm.kind, .slice fm.cl fm.clL fm.clC] 31) = W1 at *
      clear hWW
      go_wp2_with fail
      go_loopw [9] (fun i wr => ∃ k : Nat, k ≤ l.length ∧ i = .int .i64 k ∧ (∀ j, (hj : j < l.length) → j < k → ahQ l[j] x = true) ∧ Below W1.heap.size W1 wr) (fun i _ => l.length - (intOf i).toNat)
      case atStart => exact ⟨0, by omega, rfl, fun j hj h => absurd h (by omega), Below.refl _ _⟩
      case round =>
        obtain ⟨k, hk, rfl, hno, hB⟩ := hrel
        have hB2 : Below w.heap.size w wr := since_step hB1 hB
        have HXB : Hid (∀ V, Below wr.heap.size wr V → Ac.Bx V w.heap.size x) := Lib.hid fun V hV => (hx1.below hB).below hV
        have HO : Hid (∀ V, Below wr.heap.size wr V → V.ownsRow B0 31 4 (.slice A l.length cap) l.length (rc Ac.cells l)) := Lib.hid fun V hV => own_below (own_below hown hB) hV
        have hxl : w.heap.size < wr.heap.size := (HXB.out wr (Below.refl _ _)).lt
        by_cases hlt : k < l.length
        · have hO0 := HO.out wr (Below.refl _ _)
          obtain ⟨gb, rfl, hgb, hgw, _⟩ := own_at hO0 (by omega)
          obtain ⟨b, o, eb, hbw, hg⟩ := (Sl.of_own hO0).ac hlt
          injection eb with eb
          injection eb with e1 e2 e3
          subst e1; subst e2
          simp only [Nat.zero_add] at hg
          have hc1 := own_capQ hO0
          unfold maxLen at hc1
          obtain ⟨hc1, hcm⟩ := hc1
          have HK1 : Hid (∀ V, Below wr.heap.size wr V → l[k].at V gb (k * 4)) := Lib.hid fun V hV => Ac.at_keep (w := wr) hg fun i => hV.cell (p := ⟨gb, i, none⟩) hbw
          have hlk : (k : Int) < (l.length : Int) := by omega
          have hck : ¬ (cap = k) := by omega
          have hkc : k ≤ cap := by omega
          by_cases hq : ahQ l[k] x = true
          · have HN : Hid (∀ j, (hj : j < l.length) → j < k + 1 → ahQ l[j] x = true) := Lib.hid fun j hj hjk => by
              rcases Nat.lt_or_ge j k with h | h
              · exact hno j hj h
              · obtain rfl : j = k := by omega
                exact hq
            have hq2 : l[k].id < x.id := by simpa [ahQ] using hq
            clear hno hown hx1 hg hbw hq hO0
            generalize l[k] = v at HK1 hq2
            obtain ⟨vid, vm, vk, vc, vcL, vcC⟩ := v
            unfold Ac.at at HK1
            simp only at HK1 hq2
            go_wp2_with fail
            refine wp_region_held_drew (S := (fun V => Below wr.heap.size wr V)) (by kernel_rfl) (by exact (Below.refl _ _).drew) (fun hHeld => ?_)
            refine tkI 0 21 rfl (by intro w hSw; obtain ⟨g0, g1, g2, g3⟩ := HK1.out _ hSw; obtain ⟨x0, x1, x2, x3⟩ := (HXB.out _ hSw).got; go_simp <;> with_reducible rfl) hHeld ?_; simp only [pqZ]
            refine tkI 1 22 rfl (by intro w hSw; obtain ⟨g0, g1, g2, g3⟩ := HK1.out _ hSw; obtain ⟨x0, x1, x2, x3⟩ := (HXB.out _ hSw).got; go_simp <;> with_reducible rfl) hHeld ?_; simp only [pqZ]
            refine tkI 2 23 rfl (by intro w hSw; obtain ⟨g0, g1, g2, g3⟩ := HK1.out _ hSw; obtain ⟨x0, x1, x2, x3⟩ := (HXB.out _ hSw).got; go_simp <;> with_reducible rfl) hHeld ?_; simp only [pqZ]
            refine tkI 3 24 rfl (by intro w hSw; obtain ⟨g0, g1, g2, g3⟩ := HK1.out _ hSw; obtain ⟨x0, x1, x2, x3⟩ := (HXB.out _ hSw).got; go_simp <;> with_reducible rfl) hHeld ?_; simp only [pqZ]
            refine tkI 4 25 rfl (by intro w hSw; obtain ⟨g0, g1, g2, g3⟩ := HK1.out _ hSw; obtain ⟨x0, x1, x2, x3⟩ := (HXB.out _ hSw).got; go_simp <;> with_reducible rfl) hHeld ?_; simp only [pqZ]
            refine tkI 5 26 rfl (by intro w hSw; obtain ⟨g0, g1, g2, g3⟩ := HK1.out _ hSw; obtain ⟨x0, x1, x2, x3⟩ := (HXB.out _ hSw).got; go_simp <;> with_reducible rfl) hHeld ?_; simp only [pqZ]
            refine tkI 6 27 rfl (by intro w hSw; obtain ⟨g0, g1, g2, g3⟩ := HK1.out _ hSw; obtain ⟨x0, x1, x2, x3⟩ := (HXB.out _ hSw).got; go_simp <;> with_reducible rfl) hHeld ?_; simp only [pqZ]
            refine tkI 7 28 rfl (by intro w hSw; obtain ⟨g0, g1, g2, g3⟩ := HK1.out _ hSw; obtain ⟨x0, x1, x2, x3⟩ := (HXB.out _ hSw).got; go_simp <;> with_reducible rfl) hHeld ?_; simp only [pqZ]
            refine tkI 8 29 rfl (by intro w hSw; obtain ⟨g0, g1, g2, g3⟩ := HK1.out _ hSw; obtain ⟨x0, x1, x2, x3⟩ := (HXB.out _ hSw).got; go_simp <;> with_reducible rfl) hHeld ?_; simp only [pqZ]
            refine tkI 9 30 rfl (by intro w hSw; obtain ⟨g0, g1, g2, g3⟩ := HK1.out _ hSw; obtain ⟨x0, x1, x2, x3⟩ := (HXB.out _ hSw).got; go_simp <;> with_reducible rfl) hHeld ?_; simp only [pqZ]
            refine tkI 10 31 rfl (by intro w hSw; obtain ⟨g0, g1, g2, g3⟩ := HK1.out _ hSw; obtain ⟨x0, x1, x2, x3⟩ := (HXB.out _ hSw).got; go_simp <;> with_reducible rfl) hHeld ?_; simp only [pqZ]
            refine tkI 11 32 rfl (by intro w hSw; obtain ⟨g0, g1, g2, g3⟩ := HK1.out _ hSw; obtain ⟨x0, x1, x2, x3⟩ := (HXB.out _ hSw).got; go_simp <;> with_reducible rfl) hHeld ?_; simp only [pqZ]
            refine tkI 12 33 rfl (by intro w hSw; obtain ⟨g0, g1, g2, g3⟩ := HK1.out _ hSw; obtain ⟨x0, x1, x2, x3⟩ := (HXB.out _ hSw).got; go_simp <;> with_reducible rfl) hHeld ?_; simp only [pqZ]
            refine tkI 13 34 rfl (by intro w hSw; obtain ⟨g0, g1, g2, g3⟩ := HK1.out _ hSw; obtain ⟨x0, x1, x2, x3⟩ := (HXB.out _ hSw).got; go_simp <;> with_reducible rfl) hHeld ?_; simp only [pqZ]
            refine wpAnyH_done (by kernel_rfl) ?_ _
            have HN2 := HN
            have hB3 := hB.trans (hHeld.mono hB.size)
            go_wp2_with fail
            go_roundw
            case rel => exact ⟨k + 1, by omega, by go_num, HN2.out, hB3⟩
            case measure => simp [intOf]; omega
          · have hq2 : ¬ l[k].id < x.id := by simpa [ahQ] using hq
            have HE : Hid (putQR q l x = (0, l.take k ++ x :: l.drop k)) := Lib.hid (HPL.out k hk hno (fun _ => by simpa using hq))
            clear hno hown hx1 hg hbw hq hO0
            generalize l[k] = v at HK1 hq2
            obtain ⟨vid, vm, vk, vc, vcL, vcC⟩ := v
            unfold Ac.at at HK1
            simp only at HK1 hq2
            go_wp2_with fail
            refine wp_region_held_drew (S := (fun V => Below wr.heap.size wr V)) (by kernel_rfl) (by exact (Below.refl _ _).drew) (fun hHeld => ?_)
            refine tkI 0 21 rfl (by intro w hSw; obtain ⟨g0, g1, g2, g3⟩ := HK1.out _ hSw; obtain ⟨x0, x1, x2, x3⟩ := (HXB.out _ hSw).got; go_simp <;> with_reducible rfl) hHeld ?_; simp only [pqZ]
            refine tkI 1 22 rfl (by intro w hSw; obtain ⟨g0, g1, g2, g3⟩ := HK1.out _ hSw; obtain ⟨x0, x1, x2, x3⟩ := (HXB.out _ hSw).got; go_simp <;> with_reducible rfl) hHeld ?_; simp only [pqZ]
            refine tkI 2 23 rfl (by intro w hSw; obtain ⟨g0, g1, g2, g3⟩ := HK1.out _ hSw; obtain ⟨x0, x1, x2, x3⟩ := (HXB.out _ hSw).got; go_simp <;> with_reducible rfl) hHeld ?_; simp only [pqZ]
            refine tkI 3 24 rfl (by intro w hSw; obtain ⟨g0, g1, g2, g3⟩ := HK1.out _ hSw; obtain ⟨x0, x1, x2, x3⟩ := (HXB.out _ hSw).got; go_simp <;> with_reducible rfl) hHeld ?_; simp only [pqZ]
            refine tkI 4 25 rfl (by intro w hSw; obtain ⟨g0, g1, g2, g3⟩ := HK1.out _ hSw; obtain ⟨x0, x1, x2, x3⟩ := (HXB.out _ hSw).got; go_simp <;> with_reducible rfl) hHeld ?_; simp only [pqZ]
            refine tkI 5 26 rfl (by intro w hSw; obtain ⟨g0, g1, g2, g3⟩ := HK1.out _ hSw; obtain ⟨x0, x1, x2, x3⟩ := (HXB.out _ hSw).got; go_simp <;> with_reducible rfl) hHeld ?_; simp only [pqZ]
            refine tkI 6 27 rfl (by intro w hSw; obtain ⟨g0, g1, g2, g3⟩ := HK1.out _ hSw; obtain ⟨x0, x1, x2, x3⟩ := (HXB.out _ hSw).got; go_simp <;> with_reducible rfl) hHeld ?_; simp only [pqZ]
            refine tkI 7 28 rfl (by intro w hSw; obtain ⟨g0, g1, g2, g3⟩ := HK1.out _ hSw; obtain ⟨x0, x1, x2, x3⟩ := (HXB.out _ hSw).got; go_simp <;> with_reducible rfl) hHeld ?_; simp only [pqZ]
            refine tkI 8 29 rfl (by intro w hSw; obtain ⟨g0, g1, g2, g3⟩ := HK1.out _ hSw; obtain ⟨x0, x1, x2, x3⟩ := (HXB.out _ hSw).got; go_simp <;> with_reducible rfl) hHeld ?_; simp only [pqZ]
            refine tkI 9 30 rfl (by intro w hSw; obtain ⟨g0, g1, g2, g3⟩ := HK1.out _ hSw; obtain ⟨x0, x1, x2, x3⟩ := (HXB.out _ hSw).got; go_simp <;> with_reducible rfl) hHeld ?_; simp only [pqZ]
            refine tkI 10 31 rfl (by intro w hSw; obtain ⟨g0, g1, g2, g3⟩ := HK1.out _ hSw; obtain ⟨x0, x1, x2, x3⟩ := (HXB.out _ hSw).got; go_simp <;> with_reducible rfl) hHeld ?_; simp only [pqZ]
            refine tkI 11 32 rfl (by intro w hSw; obtain ⟨g0, g1, g2, g3⟩ := HK1.out _ hSw; obtain ⟨x0, x1, x2, x3⟩ := (HXB.out _ hSw).got; go_simp <;> with_reducible rfl) hHeld ?_; simp only [pqZ]
            refine tkI 12 33 rfl (by intro w hSw; obtain ⟨g0, g1, g2, g3⟩ := HK1.out _ hSw; obtain ⟨x0, x1, x2, x3⟩ := (HXB.out _ hSw).got; go_simp <;> with_reducible rfl) hHeld ?_; simp only [pqZ]
            refine tkI 13 34 rfl (by intro w hSw; obtain ⟨g0, g1, g2, g3⟩ := HK1.out _ hSw; obtain ⟨x0, x1, x2, x3⟩ := (HXB.out _ hSw).got; go_simp <;> with_reducible rfl) hHeld ?_; simp only [pqZ]
            refine wpAnyH_done (by kernel_rfl) ?_ _
            have HS1 : Hid (∀ V, Below wr.heap.size wr V → Sl V (some ⟨gb, 0, none⟩) (rc Ac.cells (l.take k))) := Lib.hid fun V hV => by rw [← rc_take Ac.len]; exact (Sl.of_own (HO.out V hV)).take _
            have hlt1 : (rc Ac.cells (l.take k)).length = k * 4 := by rw [rc_length Ac.len, List.length_take, Nat.min_eq_left (by omega)]
            have HL1 := Lib.hid hlt1
            clear hlt1
            go_wp2_with (first
              | (at_builtin; refine wpList_app rfl (.tmp 37) (.tmp 40) rfl EAc rfl rfl (own_nil _ _ _) (m := k) (news := rc Ac.cells (l.take k)) HL1.out (HS1.out _ hHeld) (rc_one Ac.one _) (by unfold maxLen; omega) (by omega) (Nat.le_refl _) ?_; intro A2 c2 w3 hown2 hg2 hb2; simp only [Nat.zero_add, List.nil_append] at hown2; obtain ⟨x0, x1, x2, x3⟩ := (HXB.out _ (hHeld.trans (hb2.mono hHeld.size))).got)
              | (at_builtin; refine wpList_app rfl (.tmp 42) (.tmp 44) rfl EAc rfl rfl (hown2.alloc _) (m := 1) (news := x.cells) rfl (Sl.new_ _ _ _) (Ac.one _) (by unfold maxLen; omega) (by omega) (by have h1 := hb2.size; simp only [World.size_alloc, World.size_drew] at h1 ⊢; omega) ?_; intro A3 c3 w4 hown3 hg3 hb3)
              | (at_builtin; refine wpList_app rfl (.tmp 46) (.tmp 49) rfl EAc rfl rfl hown3 (m := l.length - k) (news := (rc Ac.cells (l.drop k))) (by rw [rc_length Ac.len, List.length_drop]) (by rw [← rc_drop Ac.len]; exact Sl.drop0_Acct9 (Sl.of_own (HO.out _ (hHeld.trans ((hb2.trans (((Below.refl _ _).alloc hb2.size _).trans hb3)).mono hHeld.size))))) (rc_one Ac.one _) (by unfold maxLen; omega) (by omega) (by have h1 := hb2.size; have h2 := hb3.size; simp only [World.size_alloc, World.size_drew] at h1 h2 ⊢; omega) ?_; intro A4 c4 w5 hown4 hg4 hb4)
              | fail)
            have hBf := hB2.trans ((hHeld.mono (Nat.le_of_lt hxl)).trans ((hb2.trans (((Below.refl _ _).alloc hb2.size _).trans (hb3.trans hb4))).mono (Nat.le_trans (Nat.le_of_lt hxl) hHeld.size)))
            have hown5 := own_base hown4 (Nat.le_trans (Nat.le_of_lt hxl) hHeld.size)
            go_ret2
            refine ⟨⟨A4, c4, ?_, ?_⟩, hBf⟩
            · rw [HE.out]
              have e : (l.take k ++ x :: l.drop k).length = k + 1 + (l.length - k) := by simp; omega
              simp only [e]; rfl
            · rw [HE.out]
              have e : (l.take k ++ x :: l.drop k).length = k + 1 + (l.length - k) := by simp; omega
              simp only [e]
              rw [rc_append, rc_cons, ← List.append_assoc]
              exact hown5
        · obtain rfl : k = l.length := by omega
          have HE : Hid (putQR q l x = (0, l.take l.length ++ x :: l.drop l.length)) := Lib.hid (HPL.out _ (Nat.le_refl _) hno (fun h => absurd h (by omega)))
          have hO0 := HO.out wr (Below.refl _ _)
          have hdr : l.drop l.length = [] := List.drop_length ..
          clear hno hown hx1
          go_wp2_with fail
          refine wp_region_held_drew (S := (fun V => Below wr.heap.size wr V)) (by kernel_rfl) (by exact (Below.refl _ _).drew) (fun hHeld => ?_)
          refine tkI 0 21 rfl (by intro w hSw; obtain ⟨x0, x1, x2, x3⟩ := (HXB.out _ hSw).got; go_simp <;> with_reducible rfl) hHeld ?_; simp only [pqZ]
          refine tkI 1 22 rfl (by intro w hSw; obtain ⟨x0, x1, x2, x3⟩ := (HXB.out _ hSw).got; go_simp <;> with_reducible rfl) hHeld ?_; simp only [pqZ]
          refine tkI 2 23 rfl (by intro w hSw; obtain ⟨x0, x1, x2, x3⟩ := (HXB.out _ hSw).got; go_simp <;> with_reducible rfl) hHeld ?_; simp only [pqZ]
          refine tkI 3 24 rfl (by intro w hSw; obtain ⟨x0, x1, x2, x3⟩ := (HXB.out _ hSw).got; go_simp <;> with_reducible rfl) hHeld ?_; simp only [pqZ]
          refine tkI 4 25 rfl (by intro w hSw; obtain ⟨x0, x1, x2, x3⟩ := (HXB.out _ hSw).got; go_simp <;> with_reducible rfl) hHeld ?_; simp only [pqZ]
          refine tkO 5 26 rfl (by kernel_rfl) (by rfl) hHeld ?_; simp only [pqZ]
          refine tkO 6 27 rfl (by kernel_rfl) (by rfl) hHeld ?_; simp only [pqZ]
          refine tkO 7 28 rfl (by kernel_rfl) (by rfl) hHeld ?_; simp only [pqZ]
          refine tkO 8 29 rfl (by kernel_rfl) (by rfl) hHeld ?_; simp only [pqZ]
          refine tkO 9 30 rfl (by kernel_rfl) (by rfl) hHeld ?_; simp only [pqZ]
          refine tkO 10 31 rfl (by kernel_rfl) (by rfl) hHeld ?_; simp only [pqZ]
          refine tkO 11 32 rfl (by kernel_rfl) (by rfl) hHeld ?_; simp only [pqZ]
          refine tkO 12 33 rfl (by kernel_rfl) (by rfl) hHeld ?_; simp only [pqZ]
          refine tkI 13 34 rfl (by intro w hSw; obtain ⟨x0, x1, x2, x3⟩ := (HXB.out _ hSw).got; go_simp <;> with_reducible rfl) hHeld ?_; simp only [pqZ]
          refine wpAnyH_done (by kernel_rfl) ?_ _
          rcases hO0.2 with ⟨h0, h1⟩ | ⟨g', cap', cur', h0, _, _, h3, h4, _⟩
          · injection h0 with e1 e2 e3
            subst e1; subst e3
            have hrn : l = [] := List.eq_nil_of_length_eq_zero h1
            subst hrn
            simp only [List.length_nil] at *
            have HS1 : Hid (∀ V, Below wr.heap.size wr V → Sl V none (rc Ac.cells (([] : List Ac).take 0))) := Lib.hid fun V hV => by rw [← rc_take Ac.len]; exact (Sl.of_own (HO.out V hV)).take _
            have hlt1 : (rc Ac.cells (([] : List Ac).take 0)).length = 0 * 4 := by rw [rc_length Ac.len, List.length_take, Nat.min_eq_left (by omega)]
            have HL1 := Lib.hid hlt1
            clear hlt1
            go_wp2_with (first
              | (at_builtin; refine wpList_app rfl (.tmp 37) (.tmp 40) rfl EAc rfl rfl (own_nil _ _ _) (m := 0) (news := rc Ac.cells (([] : List Ac).take 0)) HL1.out (HS1.out _ hHeld) (rc_one Ac.one _) (by unfold maxLen; omega) (by omega) (Nat.le_refl _) ?_; intro A2 c2 w3 hown2 hg2 hb2; simp only [Nat.zero_add, List.nil_append] at hown2; obtain ⟨x0, x1, x2, x3⟩ := (HXB.out _ (hHeld.trans (hb2.mono hHeld.size))).got)
              | (at_builtin; refine wpList_app rfl (.tmp 42) (.tmp 44) rfl EAc rfl rfl (hown2.alloc _) (m := 1) (news := x.cells) rfl (Sl.new_ _ _ _) (Ac.one _) (by unfold maxLen; omega) (by omega) (by have h1 := hb2.size; simp only [World.size_alloc, World.size_drew] at h1 ⊢; omega) ?_; intro A3 c3 w4 hown3 hg3 hb3)
              | (at_builtin; refine wpList_app rfl (.tmp 46) (.tmp 49) rfl EAc rfl rfl hown3 (m := 0) (news := []) rfl Sl.nil (by intro u hu; cases hu) (by unfold maxLen; omega) (by omega) (by have h1 := hb2.size; have h2 := hb3.size; simp only [World.size_alloc, World.size_drew] at h1 h2 ⊢; omega) ?_; intro A4 c4 w5 hown4 hg4 hb4)
              | fail)
            have hBf := hB2.trans ((hHeld.mono (Nat.le_of_lt hxl)).trans ((hb2.trans (((Below.refl _ _).alloc hb2.size _).trans (hb3.trans hb4))).mono (Nat.le_trans (Nat.le_of_lt hxl) hHeld.size)))
            have hown5 := own_base hown4 (Nat.le_trans (Nat.le_of_lt hxl) hHeld.size)
            go_ret2
            refine ⟨⟨A4, c4, ?_, ?_⟩, hBf⟩
            · rw [HE.out]
              have e : (([] : List Ac).take 0 ++ x :: ([] : List Ac).drop 0).length = 0 + 1 + 0 := by rw [hdr]; simp
              simp only [e]; rfl
            · rw [HE.out]
              have e : (([] : List Ac).take 0 ++ x :: ([] : List Ac).drop 0).length = 0 + 1 + 0 := by rw [hdr]; simp
              simp only [e]
              rw [rc_append, rc_cons, hdr, ← List.append_assoc]
              exact hown5
          · injection h0 with e1 e2 e3
            subst e1; subst e3
            unfold maxLen at h4
            by_cases hcr : cap = l.length
            · subst hcr
              have HS1 : Hid (∀ V, Below wr.heap.size wr V → Sl V (some ⟨g', 0, none⟩) (rc Ac.cells (l.take l.length))) := Lib.hid fun V hV => by rw [← rc_take Ac.len]; exact (Sl.of_own (HO.out V hV)).take _
              have hlt1 : (rc Ac.cells (l.take l.length)).length = l.length * 4 := by rw [rc_length Ac.len, List.length_take, Nat.min_eq_left (by omega)]
              have HL1 := Lib.hid hlt1
              clear hlt1
              go_wp2_with (first
                | (at_builtin; refine wpList_app rfl (.tmp 37) (.tmp 40) rfl EAc rfl rfl (own_nil _ _ _) (m := l.length) (news := rc Ac.cells (l.take l.length)) HL1.out (HS1.out _ hHeld) (rc_one Ac.one _) (by unfold maxLen; omega) (by omega) (Nat.le_refl _) ?_; intro A2 c2 w3 hown2 hg2 hb2; simp only [Nat.zero_add, List.nil_append] at hown2; obtain ⟨x0, x1, x2, x3⟩ := (HXB.out _ (hHeld.trans (hb2.mono hHeld.size))).got)
                | (at_builtin; refine wpList_app rfl (.tmp 42) (.tmp 44) rfl EAc rfl rfl (hown2.alloc _) (m := 1) (news := x.cells) rfl (Sl.new_ _ _ _) (Ac.one _) (by unfold maxLen; omega) (by omega) (by have h1 := hb2.size; simp only [World.size_alloc, World.size_drew] at h1 ⊢; omega) ?_; intro A3 c3 w4 hown3 hg3 hb3)
                | (at_builtin; refine wpList_app rfl (.tmp 46) (.tmp 49) rfl EAc rfl rfl hown3 (m := 0) (news := []) rfl Sl.nil (by intro u hu; cases hu) (by unfold maxLen; omega) (by omega) (by have h1 := hb2.size; have h2 := hb3.size; simp only [World.size_alloc, World.size_drew] at h1 h2 ⊢; omega) ?_; intro A4 c4 w5 hown4 hg4 hb4)
                | fail)
              have hBf := hB2.trans ((hHeld.mono (Nat.le_of_lt hxl)).trans ((hb2.trans (((Below.refl _ _).alloc hb2.size _).trans (hb3.trans hb4))).mono (Nat.le_trans (Nat.le_of_lt hxl) hHeld.size)))
              have hown5 := own_base hown4 (Nat.le_trans (Nat.le_of_lt hxl) hHeld.size)
              go_ret2
              refine ⟨⟨A4, c4, ?_, ?_⟩, hBf⟩
              · rw [HE.out]
                have e : (l.take l.length ++ x :: l.drop l.length).length = l.length + 1 + 0 := by rw [hdr]; simp
                simp only [e]; rfl
              · rw [HE.out]
                have e : (l.take l.length ++ x :: l.drop l.length).length = l.length + 1 + 0 := by rw [hdr]; simp
                simp only [e]
                rw [rc_append, rc_cons, hdr, ← List.append_assoc]
                exact hown5
            · have hck : ¬ (cap = l.length) := hcr
              have HS1 : Hid (∀ V, Below wr.heap.size wr V → Sl V (some ⟨g', 0, none⟩) (rc Ac.cells (l.take l.length))) := Lib.hid fun V hV => by rw [← rc_take Ac.len]; exact (Sl.of_own (HO.out V hV)).take _
              have hlt1 : (rc Ac.cells (l.take l.length)).length = l.length * 4 := by rw [rc_length Ac.len, List.length_take, Nat.min_eq_left (by omega)]
              have HL1 := Lib.hid hlt1
              clear hlt1
              go_wp2_with (first
                | (at_builtin; refine wpList_app rfl (.tmp 37) (.tmp 40) rfl EAc rfl rfl (own_nil _ _ _) (m := l.length) (news := rc Ac.cells (l.take l.length)) HL1.out (HS1.out _ hHeld) (rc_one Ac.one _) (by unfold maxLen; omega) (by omega) (Nat.le_refl _) ?_; intro A2 c2 w3 hown2 hg2 hb2; simp only [Nat.zero_add, List.nil_append] at hown2; obtain ⟨x0, x1, x2, x3⟩ := (HXB.out _ (hHeld.trans (hb2.mono hHeld.size))).got)
                | (at_builtin; refine wpList_app rfl (.tmp 42) (.tmp 44) rfl EAc rfl rfl (hown2.alloc _) (m := 1) (news := x.cells) rfl (Sl.new_ _ _ _) (Ac.one _) (by unfold maxLen; omega) (by omega) (by have h1 := hb2.size; simp only [World.size_alloc, World.size_drew] at h1 ⊢; omega) ?_; intro A3 c3 w4 hown3 hg3 hb3)
                | (at_builtin; refine wpList_app rfl (.tmp 46) (.tmp 49) rfl EAc rfl rfl hown3 (m := 0) (news := []) rfl Sl.nil (by intro u hu; cases hu) (by unfold maxLen; omega) (by omega) (by have h1 := hb2.size; have h2 := hb3.size; simp only [World.size_alloc, World.size_drew] at h1 h2 ⊢; omega) ?_; intro A4 c4 w5 hown4 hg4 hb4)
                | fail)
              have hBf := hB2.trans ((hHeld.mono (Nat.le_of_lt hxl)).trans ((hb2.trans (((Below.refl _ _).alloc hb2.size _).trans (hb3.trans hb4))).mono (Nat.le_trans (Nat.le_of_lt hxl) hHeld.size)))
              have hown5 := own_base hown4 (Nat.le_trans (Nat.le_of_lt hxl) hHeld.size)
              go_ret2
              refine ⟨⟨A4, c4, ?_, ?_⟩, hBf⟩
              · rw [HE.out]
                have e : (l.take l.length ++ x :: l.drop l.length).length = l.length + 1 + 0 := by rw [hdr]; simp
                simp only [e]; rfl
              · rw [HE.out]
                have e : (l.take l.length ++ x :: l.drop l.length).length = l.length + 1 + 0 := by rw [hdr]; simp
                simp only [e]
                rw [rc_append, rc_cons, hdr, ← List.append_assoc]
                exact hown5
    · have HR : Hid (putQR q l x = (12, [])) := Lib.hid (by rw [putQR, if_neg (by simpa using hok), if_pos hh])
      have HH := Lib.hid hh
      clear hok hh hat hfk hid hbefore hsd
      unfold Ac.val at HIS ⊢
      go_enter Tryz.func39, Tryz.ntmps39
      go_wp2_with fail
      refine (HIS.out _ hB0).mono ?_
      rintro e w1 ⟨rfl, hb1⟩
      have hB1 := since_step hB0 hb1
      have hx1 := hx0.below hb1
      have hown1 := own_below hown0 hb1
      obtain ⟨x0, x1, x2, x3⟩ := hx1.got
      clear hb1
      rw [HI.out]
      go_wp2_with fail
      refine (HFD.out _ (Sl.of_own hown1)).mono ?_
      rintro e w2 ⟨rfl, hb2⟩
      have hB2' := since_step hB1 hb2
      have hx2 := hx1.below hb2
      have hown2' := own_below hown1 hb2
      clear x0 x1 x2 x3 hb2 hown1 hx1 hx0 hown0
      rw [HH.out]
      generalize findQ l x.id = fm
      unfold Ac.val
      have hB1 := since_alloc hB2' (.cells fm.cells.toArray 31)
      have hx1 := hx2.below ((Below.refl _ _).alloc (Nat.le_refl _) (.cells fm.cells.toArray 31))
      have hown := hown2'.alloc (.cells fm.cells.toArray 31)
      have hcs := @cell_set
      clear hB2' hx2 hown2'
      go_wp2_with fail
      go_ret2
      rw [HR.out]
      exact ⟨QRes.nil _ _ _, hB1⟩
def Deep (w : World) (l : List Ac) : Prop := ∀ g ∈ l, ∃ L : List Nt, g.clL = L.length ∧ L.length ≤ 20 ∧ Sl w g.cl (rc Nt.cells L)
theorem Deep.below {w w' : World} {l : List Ac} (h : Deep w l) (hb : Below w.heap.size w w') : Deep w' l := fun g hg => by
  obtain ⟨L, h1, h2, h3⟩ := h g hg
  exact ⟨L, h1, h2, h3.below hb⟩
def GoodA (w : World) (l : List Ac) : Prop := ∀ g ∈ l, ∃ L : List Nt, g.clL = L.length ∧ L.length ≤ 20 ∧ Sl w g.cl (rc Nt.cells L) ∧ okC g.id g.mem g.kind L
theorem GoodA.below {w w' : World} {l : List Ac} (h : GoodA w l) (hb : Below w.heap.size w w') : GoodA w' l := fun g hg => by
  obtain ⟨L, h1, h2, h3, h4⟩ := h g hg
  exact ⟨L, h1, h2, h3.below hb, h4⟩
theorem rd_accts {w : World} {A : Option Addr} {n c : Nat} (h : Rd w (.sl (.cat (.int .i64) (.cat (.int .i64) (.cat (.int .i64) (.cat (.sl (.int .i64)) .nil))))) [.slice A n c]) :
    ∃ l : List Ac, l.length = n ∧ n ≤ c ∧ c ≤ maxLen ∧ Sl w A (rc Ac.cells l) ∧ ∀ g ∈ l, ∃ L : List Nt, g.clL = L.length ∧ L.length ≤ g.clC ∧ g.clC ≤ maxLen ∧ Sl w g.cl (rc Nt.cells L) := by
  obtain ⟨A', n', c', rows, e, h1, h2, h3, h4, h5⟩ := h
  simp only [List.cons.injEq, Value.slice.injEq, and_true] at e
  obtain ⟨rfl, rfl, rfl⟩ := e
  have key : ∀ rows : List (List Value), (∀ r ∈ rows, Rd w (.cat (.int .i64) (.cat (.int .i64) (.cat (.int .i64) (.cat (.sl (.int .i64)) .nil)))) r) → ∃ l : List Ac, l.length = rows.length ∧ rows.flatten = rc Ac.cells l ∧ ∀ g ∈ l, ∃ L : List Nt, g.clL = L.length ∧ L.length ≤ g.clC ∧ g.clC ≤ maxLen ∧ Sl w g.cl (rc Nt.cells L) := by
    intro rows
    induction rows with
    | nil => intro _; exact ⟨[], rfl, rfl, fun g hg => by cases hg⟩
    | cons r rows ih =>
      intro h
      obtain ⟨l, a1, a2, a3⟩ := ih (fun x hx => h x (by simp [hx]))
      obtain ⟨id, mem, kind, A, cap, L, e, b1, b2, b3⟩ := rd_acct (a := r.toArray) (by simpa using h r (by simp))
      have e2 : r = (⟨id, mem, kind, A, L.length, cap⟩ : Ac).cells := by simpa [Ac.cells] using congrArg Array.toList e
      refine ⟨⟨id, mem, kind, A, L.length, cap⟩ :: l, by simp [a1], by rw [List.flatten_cons, a2, e2, rc_cons], fun g hg => ?_⟩
      rcases List.mem_cons.1 hg with rfl | hg
      · exact ⟨L, rfl, b1, b2, b3⟩
      · exact a3 g hg
  obtain ⟨l, a1, a2, a3⟩ := key rows h5
  rw [a2] at h4
  exact ⟨l, by omega, h1, h2, h4, a3⟩
end
end Go.Proofs.YtmjndpkfhdoljaaGreat
