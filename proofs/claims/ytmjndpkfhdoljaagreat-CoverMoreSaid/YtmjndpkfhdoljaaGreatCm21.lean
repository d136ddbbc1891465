import Derived.Test.YtmjndpkfhdoljaaGreatCm17
import Derived.Test.YtmjndpkfhdoljaaGreatCm20
set_option maxHeartbeats 16000000
set_option maxRecDepth 100000
set_option linter.unusedVariables false
set_option linter.unusedSimpArgs false
namespace Go.Proofs.YtmjndpkfhdoljaaGreat
open Go.ChangeShapes Go.WideShapes Go.ChangeAt Go.RowKit
section
def ahI (x y : Iq) : Bool := decide (x.id < y.id)
def idI (id : Int) (x : Iq) : Bool := x.id == id
def findI (l : List Iq) (id : Int) : Iq := pickL (idI id) Iq.zero l
def hasI (l : List Iq) (id : Int) : Bool := (l.find? (idI id)).isSome
theorem casesI (l : List Iq) (id : Int) : (hasI l id = false ∧ atL (idI id) l = -1 ∧ findI l id = Iq.zero ∧ l.find? (idI id) = none) ∨ ∃ k : Nat, ∃ hk : k < l.length, hasI l id = true ∧ atL (idI id) l = k ∧ findI l id = l[k] ∧ idI id l[k] = true ∧ ∀ j, (hj : j < k) → idI id (l[j]'(by omega)) = false := by
  rcases atL_cases (idI id) l with ⟨h0, hno⟩ | ⟨k, hk, h0, hpk, hno⟩
  · have hf := find_none hno
    exact .inl ⟨by rw [hasI, hf]; rfl, h0, by rw [findI, pickL, hf]; rfl, hf⟩
  · have hf := find_some hk hno hpk
    exact .inr ⟨k, hk, by rw [hasI, hf]; rfl, h0, by rw [findI, pickL, hf]; rfl, hpk, hno⟩
def putIR (q : Bool) (l : List Iq) (v : Iq) : Int × List Iq := if ¬ (q = true) then (2, []) else if hasI l v.id = true then (12, []) else (0, putR ahI l v)
def IRes (B : Nat) (w' : World) (e : Ending) (R : Int × List Iq) : Prop :=
  ∃ A' c', e = .returned (.tuple #[.slice A' R.2.length c', .int .i64 R.1]) ∧ w'.ownsRow B 92 5 (.slice A' R.2.length c') R.2.length (rc Iq.cells R.2)
theorem IRes.nil (B : Nat) (w' : World) (n : Int) : IRes B w' (.returned (.tuple #[.slice none 0 0, .int .i64 n])) (n, []) := ⟨none, 0, rfl, own_nil _ _ _⟩
theorem boolI_ext {a b : Bool} (h : a = true ↔ b = true) : a = b := by cases a <;> cases b <;> simp_all
theorem ordI : Ord ahI where
  tr := fun a b c h1 h2 => by simp only [ahI, decide_eq_true_eq] at *; omega
  asy := fun a b h => by simp only [ahI, decide_eq_true_eq, decide_eq_false_iff_not] at *; omega
  cong := fun a x b h1 h2 => boolI_ext (by simp only [ahI, decide_eq_true_eq, decide_eq_false_iff_not] at *; omega)
  cong2 := fun a x b h1 h2 => boolI_ext (by simp only [ahI, decide_eq_true_eq, decide_eq_false_iff_not] at *; omega)
theorem idI_iff (id : Int) (x : Iq) : idI id x = true ↔ x.id = id := by simp [idI]
abbrev SortedI (l : List Iq) : Prop := l.Pairwise (fun a b => ahI a b = true)
theorem insI {l : List Iq} (h : SortedI l) (v : Iq) (hn : l.find? (idI v.id) = none) :
    l.take (l.findIdx fun y => !ahI y v) ++ v :: l.drop (l.findIdx fun y => !ahI y v) = putR ahI l v := by
  rw [← refPut_eq ordI v l h]
  have e : (l.filter fun y => !eqv ahI v y) = l := by
    rw [List.filter_eq_self]
    intro y hy
    rw [List.find?_eq_none] at hn
    have := hn y hy
    rw [idI_iff] at this
    simp only [eqv, ahI, Bool.not_eq_true', Bool.and_eq_false_iff, decide_eq_false_iff_not, decide_eq_true_eq, Bool.not_eq_false']
    omega
  unfold refPut
  rw [e]
def FindIRel (l : List Iq) (id : Int) (W0 : World) (i : Value) (wr : World) : Prop :=
  ∃ k : Nat, k ≤ l.length ∧ i = .int .i64 k ∧ (∀ j, (hj : j < l.length) → j < k → idI id l[j] = false) ∧ Below W0.heap.size W0 wr
theorem rfindi_any (A : Option Addr) (cap : Nat) (l : List Iq) (id : Int) (w : World) (hl : l.length ≤ 1000000) (hs : Sl w A (rc Iq.cells l)) :
    Calls Tryz.prog 107 #[.slice A l.length cap, .int .i64 id] w fun e w' => e = .returned (.tuple #[(findI l id).val, .bool (hasI l id)]) ∧ Below w.heap.size w w' := by
  have hB0 := since_alloc (Below.refl w.heap.size w) (.cells #[.int .i64 0, .int .i64 0, .int .i64 0, .int .i64 0, .slice none 0 0] 92)
  have Bz0 := Bk.new w #[.int .i64 0, .int .i64 0, .int .i64 0, .int .i64 0, .slice none 0 0] 92
  have hfz0 : ∀ i, (w.alloc (.cells #[.int .i64 0, .int .i64 0, .int .i64 0, .int .i64 0, .slice none 0 0] 92)).frozen? ⟨w.heap.size, i, none⟩ = false := fun i => by simp
  have hs0 := hs.alloc (.cells #[.int .i64 0, .int .i64 0, .int .i64 0, .int .i64 0, .slice none 0 0] 92)
  go_enter Tryz.func107, Tryz.ntmps107
  go_upto_region 1 with fail
  generalize hWW : w.alloc (.cells #[.int .i64 0, .int .i64 0, .int .i64 0, .int .i64 0, .slice none 0 0] 92) = W0 at *
  clear hWW hs
  have hz1 : w.heap.size < W0.heap.size := Bz0.1
  have HZ : Hid (∀ V, Below W0.heap.size W0 V → Bk V w.heap.size #[.int .i64 0, .int .i64 0, .int .i64 0, .int .i64 0, .slice none 0 0] ∧ ∀ i, V.frozen? ⟨w.heap.size, i, none⟩ = false) := Lib.hid fun V hV =>
    ⟨Bz0.below hV, fun i => by rw [(hV.frozen (p := ⟨w.heap.size, i, none⟩) hz1)]; exact hfz0 i⟩
  clear Bz0 hfz0
  go_wp2_with fail
  go_loopw [6] (fun i wr => FindIRel l id W0 i wr) (fun i _ => l.length - (intOf i).toNat)
  case atStart => exact ⟨0, by omega, rfl, fun j hj h => absurd h (by omega), Below.refl _ _⟩
  case round =>
    obtain ⟨k, hk, rfl, hno, hB⟩ := hrel
    have hB3 := hB0.trans (hB.mono (Nat.le_of_lt hz1))
    obtain ⟨⟨lb, cb⟩, hfz⟩ := HZ.out wr hB
    have q0 := cb 0
    have q1 := cb 1
    have q2 := cb 2
    have q3 := cb 3
    have q4 := cb 4
    simp at q0 q1 q2 q3 q4
    have hcs := @cell_set
    clear cb
    by_cases hlt2 : k < l.length
    · obtain ⟨b, o, rfl, hbw, hg⟩ := hs0.iq hlt2
      have hg1 : l[k].at wr b (o + k * 5) := Iq.at_keep (w := W0) hg fun i => hB.cell (p := ⟨b, i, none⟩) hbw
      have HX : Hid (∀ q : Bool, idI id l[k] = q → if q then findI l id = l[k] ∧ hasI l id = true else ∀ j, (hj : j < l.length) → j < k + 1 → idI id l[j] = false) := Lib.hid fun q hq => by
        cases q with
        | true =>
          have := find_some hlt2 (fun j hj => hno j (by omega) hj) hq
          exact ⟨by rw [findI, pickL, this]; rfl, by rw [hasI, this]; rfl⟩
        | false =>
          intro j hj hjk
          rcases Nat.lt_or_ge j k with h | h
          · exact hno j hj h
          · obtain rfl : j = k := by omega
            exact hq
      have hlk : (k : Int) < (l.length : Int) := by omega
      clear hg hs0 hbw hno
      generalize l[k] = v at hg1 HX
      obtain ⟨vid, v1, v2, v3, v4, v5, v6⟩ := v
      obtain ⟨g0, g1, g2, g3, g4⟩ := hg1
      simp only at g0 g1 g2 g3 g4
      by_cases h1 : vid = id
      · subst h1
        have HF := Lib.hid (show findI l vid = _ ∧ hasI l vid = true by simpa using HX.out true (by simp [idI]))
        clear HX
        go_wp2_with fail
        refine bodyPost_ret (v := .tuple #[(⟨vid, v1, v2, v3, v4, v5, v6⟩ : Iq).val, .bool true]) ?_ rfl ⟨?_, ?_⟩
        · simp [results, Tryz.results107, go_sem, q0, q1, q2, q3, q4, hfz, Iq.val]
        · rw [HF.out.1, HF.out.2]
        · repeat' (first | with_reducible exact hB3 | with_reducible refine Below.drew ?_ | with_reducible refine Below.setCell ?_ ?_ _ | with_reducible refine Below.alloc ?_ ?_ _)
          all_goals exact Nat.le_refl _
      · have HN := Lib.hid (show ∀ j, (hj : j < l.length) → j < k + 1 → idI id l[j] = false by simpa using HX.out false (by simp [idI, h1]))
        have h1b : (vid == id) = false := by simpa using h1
        clear HX h1
        go_wp2_with fail
        go_roundw
        case rel => exact ⟨k + 1, by omega, by go_num, HN.out, hB⟩
        case measure => simp [intOf]; omega
    · have hfn := find_none (p := idI id) fun j hj => hno j hj (by omega)
      have HF := Lib.hid (show findI l id = Iq.zero ∧ hasI l id = false from ⟨by rw [findI, pickL, hfn]; rfl, by rw [hasI, hfn]; rfl⟩)
      clear hno hfn HZ
      go_wp2_with fail
      refine bodyPost_ret (v := .tuple #[Iq.zero.val, .bool false]) ?_ rfl ⟨?_, ?_⟩
      · simp [results, Tryz.results107, go_sem, q0, q1, q2, q3, q4, hfz, Iq.val, Iq.zero]
      · rw [HF.out.1, HF.out.2]
      · repeat' (first | with_reducible exact hB3 | with_reducible refine Below.setCell ?_ ?_ _ | with_reducible refine Below.alloc ?_ ?_ _)
        all_goals exact Nat.le_refl _
theorem Sl.drop0_Ins {w : World} {g n : Nat} {xs : List Value} (h : Sl w (some ⟨g, 0, none⟩) xs) : Sl w (some ⟨g, n, none⟩) (xs.drop n) := by
  intro hne
  obtain ⟨b, o, e, hc⟩ := h (by rintro rfl; simp at hne)
  injection e with e
  injection e with e1 e2 e3
  subst e1; subst e2
  refine ⟨g, n, rfl, fun j u hu => ?_⟩
  rw [List.getElem?_drop] at hu
  have := hc _ _ hu
  rwa [Nat.zero_add] at this
theorem findIdx_of_Ins {α : Type} {p : α → Bool} {l : List α} {k : Nat} (hk : k ≤ l.length) (h : ∀ j, (hj : j < l.length) → j < k → p l[j] = false) (he : ∀ hj : k < l.length, p l[k] = true) : l.findIdx p = k := by
  rcases Nat.lt_or_ge k l.length with h1 | h1
  · rw [List.findIdx_eq h1]
    exact ⟨he h1, fun j hj => h j (by omega) hj⟩
  · have e : k = l.length := by omega
    rw [e, List.findIdx_eq_length]
    intro x hx
    obtain ⟨j, hj, rfl⟩ := List.getElem_of_mem hx
    exact h j hj (by omega)
theorem own_capI {w : World} {base : Nat} {e : TypeId} {size n c : Nat} {A : Option Addr} {xs : List Value} (h : w.ownsRow base e size (.slice A n c) n xs) : n ≤ c ∧ c ≤ maxLen := by
  rcases h.2 with ⟨hv, h0⟩ | ⟨g, cap, cur, hv, hg, hh, hnc, hcm, _⟩
  · injection hv with e1 e2 e3; subst e3; subst h0; exact ⟨Nat.le_refl _, by decide⟩
  · injection hv with e1 e2 e3; subst e3; exact ⟨hnc, hcm⟩
theorem rputi_any (B0 : Nat) (A : Option Addr) (cap : Nat) (l : List Iq) (x : Iq) (q : Bool) (w : World) (HQ : ∀ W, Below w.heap.size w W → Calls Tryz.prog 106 #[x.val] W fun e w' => e = .returned (.bool q) ∧ Below W.heap.size W w') (hl : l.length ≤ 900000) (hown : w.ownsRow B0 92 5 (.slice A l.length cap) l.length (rc Iq.cells l)) (hsd : SortedI l) :
  Calls Tryz.prog 84 #[.slice A l.length cap, x.val] w fun e w' => IRes w.heap.size w' e (putIR q l x) ∧ Below w.heap.size w w' := by
 have hB0 := since_alloc (Below.refl _ w) (.cells x.cells.toArray 92)
 have hx0 := Iq.Bx.new w x
 have hown0 := hown.alloc (.cells x.cells.toArray 92)
 have HIS : Hid (∀ W, Below w.heap.size w W → Calls Tryz.prog 106 #[x.val] W fun e w' => e = .returned (.bool (decide (q = true))) ∧ Below W.heap.size W w') := Lib.hid (fun W h => by have := HQ W h; rwa [show decide (q = true) = q by simp])
 have HFD := Lib.hid (fun W h => rfindi_any A cap l x.id W (by omega) h)
 clear hown HQ
 by_cases hok : q = true
 rotate_left
 ·have HI : Hid (decide (q = true) = false) := Lib.hid (decide_eq_false hok)
  have HR : Hid ((putIR q l x) = (2, [])) := Lib.hid (by rw [putIR, if_pos hok])
  clear hok
  unfold Iq.val at HIS ⊢
  go_enter Tryz.func84, Tryz.ntmps84
  go_wp2_with fail
  refine (HIS.out _ hB0).mono ?_
  rintro e w1 ⟨rfl, hb1⟩
  have hB1 := since_step hB0 hb1
  rw [HI.out]
  go_wp2_with fail
  go_ret2
  rw [HR.out]
  exact ⟨IRes.nil _ _ _, hB1⟩
 ·have HI : Hid (decide (q = true) = true) := Lib.hid (decide_eq_true hok)
  rcases casesI l x.id with ⟨hh, hat, hfz, hfn⟩ | ⟨kk, hkk, hh, hat, hfk, hid, hbefore⟩
  ·have HPL : Hid (∀ k, k ≤ l.length → (∀ j, (hj : j < l.length) → j < k → ahI l[j] x = true) → (∀ hj : k < l.length, ahI l[k] x = false) → putIR q l x = (0, l.take k ++ x :: l.drop k)) := Lib.hid fun k hk h1 h2 => by
    have h9 := insI hsd x hfn
    rw [findIdx_of_Ins hk (fun j hj hjk => by rw [h1 j hj hjk]; rfl) (fun hj => by rw [h2 hj]; rfl)] at h9
    rw [putIR, if_neg (by simpa using hok), if_neg (by rw [hh]; decide), h9]
   have HH := Lib.hid hh
   clear hok hh hat hfz hfn hsd
   unfold Iq.val at HIS ⊢
   go_enter Tryz.func84, Tryz.ntmps84
   go_wp2_with fail
   refine (HIS.out _ hB0).mono ?_
   rintro e w1 ⟨rfl, hb1⟩
   have hB1 := since_step hB0 hb1
   have hx1 := hx0.below hb1
   have hown1 := own_below hown0 hb1
   obtain ⟨x0, x1, x2, x3, x4⟩ := hx1.got
   clear hb1
   rw [HI.out]
   go_wp2_with fail
   refine (HFD.out _ (Sl.of_own hown1)).mono ?_
   rintro e w2 ⟨rfl, hb2⟩
   have hB2' := since_step hB1 hb2
   have hx2 := hx1.below hb2
   have hown2' := own_below hown1 hb2
   clear x0 x1 x2 x3 x4 hb2 hown1 hx1 hx0 hown0
   rw [HH.out]
   generalize findI l x.id = fm
   unfold Iq.val
   have hB1 := since_alloc hB2' (.cells fm.cells.toArray 92)
   have hx1 := hx2.below ((Below.refl _ _).alloc (Nat.le_refl _) (.cells fm.cells.toArray 92))
   have hown := hown2'.alloc (.cells fm.cells.toArray 92)
   have hcs := @cell_set
   clear hB2' hx2 hown2'
   go_upto_region 6 with fail
   unfold Iq.cells at hB1 hx1 hown
   generalize hWW : w2.alloc (.cells #[.int .i64 fm.id, .int .i64 fm.mult, .int .i64 fm.price, .int .i64 fm.nxt, .slice fm.mv fm.mvL fm.mvC] 92) = W1 at *
   clear hWW
   go_wp2_with fail
   go_loopw [9] (fun i wr => ∃ k : Nat, k ≤ l.length ∧ i = .int .i64 k ∧ (∀ j, (hj : j < l.length) → j < k → ahI l[j] x = true) ∧ Below W1.heap.size W1 wr) (fun i _ => l.length - (intOf i).toNat)
   case atStart => exact ⟨0, by omega, rfl, fun j hj h => absurd h (by omega), Below.refl _ _⟩
   case round =>
    obtain ⟨k, hk, rfl, hno, hB⟩ := hrel
    have hB2 : Below w.heap.size w wr := since_step hB1 hB
    have HXB : Hid (∀ V, Below wr.heap.size wr V → Iq.Bx V w.heap.size x) := Lib.hid fun V hV => (hx1.below hB).below hV
    have HO : Hid (∀ V, Below wr.heap.size wr V → V.ownsRow B0 92 5 (.slice A l.length cap) l.length (rc Iq.cells l)) := Lib.hid fun V hV => own_below (own_below hown hB) hV
    have hxl : w.heap.size < wr.heap.size := (HXB.out wr (Below.refl _ _)).lt
    by_cases hlt : k < l.length
    ·have hO0 := HO.out wr (Below.refl _ _)
     obtain ⟨gb, rfl, hgb, hgw, _⟩ := own_at hO0 (by omega)
     obtain ⟨b, o, eb, hbw, hg⟩ := (Sl.of_own hO0).iq hlt
     injection eb with eb
     injection eb with e1 e2 e3
     subst e1; subst e2
     simp only [Nat.zero_add] at hg
     have hc1 := own_capI hO0
     unfold maxLen at hc1
     obtain ⟨hc1, hcm⟩ := hc1
     have HK1 : Hid (∀ V, Below wr.heap.size wr V → l[k].at V gb (k * 5)) := Lib.hid fun V hV => Iq.at_keep (w := wr) hg fun i => hV.cell (p := ⟨gb, i, none⟩) hbw
     have hlk : (k : Int) < (l.length : Int) := by omega
     have hck : ¬ (cap = k) := by omega
     have hkc : k ≤ cap := by omega
     by_cases hq : ahI l[k] x = true
     ·have HN : Hid (∀ j, (hj : j < l.length) → j < k + 1 → ahI l[j] x = true) := Lib.hid fun j hj hjk => by
       rcases Nat.lt_or_ge j k with h | h
       ·exact hno j hj h
       ·obtain rfl : j = k := by omega
        exact hq
      have hq2 : l[k].id < x.id := by simpa [ahI] using hq
      clear hno hown hx1 hg hbw hq hO0
      generalize l[k] = v at HK1 hq2
      obtain ⟨vid, vm, vp, vx, vc, vcL, vcC⟩ := v
      unfold Iq.at at HK1
      simp only at HK1 hq2
      go_wp2_with fail
      refine wp_region_held_drew (S := (fun V => Below wr.heap.size wr V)) (by kernel_rfl) (by exact (Below.refl _ _).drew) (fun hHeld => ?_)
      refine tkI 0 21 rfl (by intro w hSw; obtain ⟨g0, g1, g2, g3, g4⟩ := HK1.out _ hSw; obtain ⟨x0, x1, x2, x3, x4⟩ := (HXB.out _ hSw).got; go_simp <;> with_reducible rfl) hHeld ?_; simp only [pqZ]
      refine tkI 1 22 rfl (by intro w hSw; obtain ⟨g0, g1, g2, g3, g4⟩ := HK1.out _ hSw; obtain ⟨x0, x1, x2, x3, x4⟩ := (HXB.out _ hSw).got; go_simp <;> with_reducible rfl) hHeld ?_; simp only [pqZ]
      refine tkI 2 23 rfl (by intro w hSw; obtain ⟨g0, g1, g2, g3, g4⟩ := HK1.out _ hSw; obtain ⟨x0, x1, x2, x3, x4⟩ := (HXB.out _ hSw).got; go_simp <;> with_reducible rfl) hHeld ?_; simp only [pqZ]
      refine tkI 3 24 rfl (by intro w hSw; obtain ⟨g0, g1, g2, g3, g4⟩ := HK1.out _ hSw; obtain ⟨x0, x1, x2, x3, x4⟩ := (HXB.out _ hSw).got; go_simp <;> with_reducible rfl) hHeld ?_; simp only [pqZ]
      refine tkI 4 25 rfl (by intro w hSw; obtain ⟨g0, g1, g2, g3, g4⟩ := HK1.out _ hSw; obtain ⟨x0, x1, x2, x3, x4⟩ := (HXB.out _ hSw).got; go_simp <;> with_reducible rfl) hHeld ?_; simp only [pqZ]
      refine tkI 5 26 rfl (by intro w hSw; obtain ⟨g0, g1, g2, g3, g4⟩ := HK1.out _ hSw; obtain ⟨x0, x1, x2, x3, x4⟩ := (HXB.out _ hSw).got; go_simp <;> with_reducible rfl) hHeld ?_; simp only [pqZ]
      refine tkI 6 27 rfl (by intro w hSw; obtain ⟨g0, g1, g2, g3, g4⟩ := HK1.out _ hSw; obtain ⟨x0, x1, x2, x3, x4⟩ := (HXB.out _ hSw).got; go_simp <;> with_reducible rfl) hHeld ?_; simp only [pqZ]
      refine tkI 7 28 rfl (by intro w hSw; obtain ⟨g0, g1, g2, g3, g4⟩ := HK1.out _ hSw; obtain ⟨x0, x1, x2, x3, x4⟩ := (HXB.out _ hSw).got; go_simp <;> with_reducible rfl) hHeld ?_; simp only [pqZ]
      refine tkI 8 29 rfl (by intro w hSw; obtain ⟨g0, g1, g2, g3, g4⟩ := HK1.out _ hSw; obtain ⟨x0, x1, x2, x3, x4⟩ := (HXB.out _ hSw).got; go_simp <;> with_reducible rfl) hHeld ?_; simp only [pqZ]
      refine tkI 9 30 rfl (by intro w hSw; obtain ⟨g0, g1, g2, g3, g4⟩ := HK1.out _ hSw; obtain ⟨x0, x1, x2, x3, x4⟩ := (HXB.out _ hSw).got; go_simp <;> with_reducible rfl) hHeld ?_; simp only [pqZ]
      refine tkI 10 31 rfl (by intro w hSw; obtain ⟨g0, g1, g2, g3, g4⟩ := HK1.out _ hSw; obtain ⟨x0, x1, x2, x3, x4⟩ := (HXB.out _ hSw).got; go_simp <;> with_reducible rfl) hHeld ?_; simp only [pqZ]
      refine tkI 11 32 rfl (by intro w hSw; obtain ⟨g0, g1, g2, g3, g4⟩ := HK1.out _ hSw; obtain ⟨x0, x1, x2, x3, x4⟩ := (HXB.out _ hSw).got; go_simp <;> with_reducible rfl) hHeld ?_; simp only [pqZ]
      refine tkI 12 33 rfl (by intro w hSw; obtain ⟨g0, g1, g2, g3, g4⟩ := HK1.out _ hSw; obtain ⟨x0, x1, x2, x3, x4⟩ := (HXB.out _ hSw).got; go_simp <;> with_reducible rfl) hHeld ?_; simp only [pqZ]
      refine tkI 13 34 rfl (by intro w hSw; obtain ⟨g0, g1, g2, g3, g4⟩ := HK1.out _ hSw; obtain ⟨x0, x1, x2, x3, x4⟩ := (HXB.out _ hSw).got; go_simp <;> with_reducible rfl) hHeld ?_; simp only [pqZ]
      refine wpAnyH_done (by kernel_rfl) ?_ _
      have HN2 := HN
      have hB3 := hB.trans (hHeld.mono hB.size)
      go_wp2_with fail
      go_roundw
      case rel => exact ⟨k + 1, by omega, by go_num, HN2.out, hB3⟩
      case measure => simp [intOf]; omega
     ·have hq2 : ¬ l[k].id < x.id := by simpa [ahI] using hq
      have HE : Hid (putIR q l x = (0, l.take k ++ x :: l.drop k)) := Lib.hid (HPL.out k hk hno (fun _ => by simpa using hq))
      clear hno hown hx1 hg hbw hq hO0
      generalize l[k] = v at HK1 hq2
      obtain ⟨vid, vm, vp, vx, vc, vcL, vcC⟩ := v
      unfold Iq.at at HK1
      simp only at HK1 hq2
      go_wp2_with fail
      refine wp_region_held_drew (S := (fun V => Below wr.heap.size wr V)) (by kernel_rfl) (by exact (Below.refl _ _).drew) (fun hHeld => ?_)
      refine tkI 0 21 rfl (by intro w hSw; obtain ⟨g0, g1, g2, g3, g4⟩ := HK1.out _ hSw; obtain ⟨x0, x1, x2, x3, x4⟩ := (HXB.out _ hSw).got; go_simp <;> with_reducible rfl) hHeld ?_; simp only [pqZ]
      refine tkI 1 22 rfl (by intro w hSw; obtain ⟨g0, g1, g2, g3, g4⟩ := HK1.out _ hSw; obtain ⟨x0, x1, x2, x3, x4⟩ := (HXB.out _ hSw).got; go_simp <;> with_reducible rfl) hHeld ?_; simp only [pqZ]
      refine tkI 2 23 rfl (by intro w hSw; obtain ⟨g0, g1, g2, g3, g4⟩ := HK1.out _ hSw; obtain ⟨x0, x1, x2, x3, x4⟩ := (HXB.out _ hSw).got; go_simp <;> with_reducible rfl) hHeld ?_; simp only [pqZ]
      refine tkI 3 24 rfl (by intro w hSw; obtain ⟨g0, g1, g2, g3, g4⟩ := HK1.out _ hSw; obtain ⟨x0, x1, x2, x3, x4⟩ := (HXB.out _ hSw).got; go_simp <;> with_reducible rfl) hHeld ?_; simp only [pqZ]
      refine tkI 4 25 rfl (by intro w hSw; obtain ⟨g0, g1, g2, g3, g4⟩ := HK1.out _ hSw; obtain ⟨x0, x1, x2, x3, x4⟩ := (HXB.out _ hSw).got; go_simp <;> with_reducible rfl) hHeld ?_; simp only [pqZ]
      refine tkI 5 26 rfl (by intro w hSw; obtain ⟨g0, g1, g2, g3, g4⟩ := HK1.out _ hSw; obtain ⟨x0, x1, x2, x3, x4⟩ := (HXB.out _ hSw).got; go_simp <;> with_reducible rfl) hHeld ?_; simp only [pqZ]
      refine tkI 6 27 rfl (by intro w hSw; obtain ⟨g0, g1, g2, g3, g4⟩ := HK1.out _ hSw; obtain ⟨x0, x1, x2, x3, x4⟩ := (HXB.out _ hSw).got; go_simp <;> with_reducible rfl) hHeld ?_; simp only [pqZ]
      refine tkI 7 28 rfl (by intro w hSw; obtain ⟨g0, g1, g2, g3, g4⟩ := HK1.out _ hSw; obtain ⟨x0, x1, x2, x3, x4⟩ := (HXB.out _ hSw).got; go_simp <;> with_reducible rfl) hHeld ?_; simp only [pqZ]
      refine tkI 8 29 rfl (by intro w hSw; obtain ⟨g0, g1, g2, g3, g4⟩ := HK1.out _ hSw; obtain ⟨x0, x1, x2, x3, x4⟩ := (HXB.out _ hSw).got; go_simp <;> with_reducible rfl) hHeld ?_; simp only [pqZ]
      refine tkI 9 30 rfl (by intro w hSw; obtain ⟨g0, g1, g2, g3, g4⟩ := HK1.out _ hSw; obtain ⟨x0, x1, x2, x3, x4⟩ := (HXB.out _ hSw).got; go_simp <;> with_reducible rfl) hHeld ?_; simp only [pqZ]
      refine tkI 10 31 rfl (by intro w hSw; obtain ⟨g0, g1, g2, g3, g4⟩ := HK1.out _ hSw; obtain ⟨x0, x1, x2, x3, x4⟩ := (HXB.out _ hSw).got; go_simp <;> with_reducible rfl) hHeld ?_; simp only [pqZ]
      refine tkI 11 32 rfl (by intro w hSw; obtain ⟨g0, g1, g2, g3, g4⟩ := HK1.out _ hSw; obtain ⟨x0, x1, x2, x3, x4⟩ := (HXB.out _ hSw).got; go_simp <;> with_reducible rfl) hHeld ?_; simp only [pqZ]
      refine tkI 12 33 rfl (by intro w hSw; obtain ⟨g0, g1, g2, g3, g4⟩ := HK1.out _ hSw; obtain ⟨x0, x1, x2, x3, x4⟩ := (HXB.out _ hSw).got; go_simp <;> with_reducible rfl) hHeld ?_; simp only [pqZ]
      refine tkI 13 34 rfl (by intro w hSw; obtain ⟨g0, g1, g2, g3, g4⟩ := HK1.out _ hSw; obtain ⟨x0, x1, x2, x3, x4⟩ := (HXB.out _ hSw).got; go_simp <;> with_reducible rfl) hHeld ?_; simp only [pqZ]
      refine wpAnyH_done (by kernel_rfl) ?_ _
      have HS1 : Hid (∀ V, Below wr.heap.size wr V → Sl V (some ⟨gb, 0, none⟩) (rc Iq.cells (l.take k))) := Lib.hid fun V hV => by rw [← rc_take Iq.len]; exact (Sl.of_own (HO.out V hV)).take _
      have hlt1 : (rc Iq.cells (l.take k)).length = k * 5 := by rw [rc_length Iq.len, List.length_take, Nat.min_eq_left (by omega)]
      have HL1 := Lib.hid hlt1
      clear hlt1
      go_wp2_with (first
       | (at_builtin; refine wpList_app rfl (.tmp 37) (.tmp 40) rfl EIq rfl rfl (own_nil _ _ _) (m := k) (news := rc Iq.cells (l.take k)) HL1.out (HS1.out _ hHeld) (rc_one Iq.one _) (by unfold maxLen; omega) (by omega) (Nat.le_refl _) ?_; intro A2 c2 w3 hown2 hg2 hb2; simp only [Nat.zero_add, List.nil_append] at hown2; obtain ⟨x0, x1, x2, x3, x4⟩ := (HXB.out _ (hHeld.trans (hb2.mono hHeld.size))).got)
       | (at_builtin; refine wpList_app rfl (.tmp 42) (.tmp 44) rfl EIq rfl rfl (hown2.alloc _) (m := 1) (news := x.cells) rfl (Sl.new_ _ _ _) (Iq.one _) (by unfold maxLen; omega) (by omega) (by have h1 := hb2.size; simp only [World.size_alloc, World.size_drew] at h1 ⊢; omega) ?_; intro A3 c3 w4 hown3 hg3 hb3)
       | (at_builtin; refine wpList_app rfl (.tmp 46) (.tmp 49) rfl EIq rfl rfl hown3 (m := l.length - k) (news := (rc Iq.cells (l.drop k))) (by rw [rc_length Iq.len, List.length_drop]) (by rw [← rc_drop Iq.len]; exact Sl.drop0_Ins (Sl.of_own (HO.out _ (hHeld.trans ((hb2.trans (((Below.refl _ _).alloc hb2.size _).trans hb3)).mono hHeld.size))))) (rc_one Iq.one _) (by unfold maxLen; omega) (by omega) (by have h1 := hb2.size; have h2 := hb3.size; simp only [World.size_alloc, World.size_drew] at h1 h2 ⊢; omega) ?_; intro A4 c4 w5 hown4 hg4 hb4)
       | fail)
      have hBf := hB2.trans ((hHeld.mono (Nat.le_of_lt hxl)).trans ((hb2.trans (((Below.refl _ _).alloc hb2.size _).trans (hb3.trans hb4))).mono (Nat.le_trans (Nat.le_of_lt hxl) hHeld.size)))
      have hown5 := own_base hown4 (Nat.le_trans (Nat.le_of_lt hxl) hHeld.size)
      go_ret2
      refine ⟨⟨A4, c4, ?_, ?_⟩, hBf⟩
      ·rw [HE.out]
       have e : (l.take k ++ x :: l.drop k).length = k + 1 + (l.length - k) := by simp; omega
       simp only [e]; rfl
      ·rw [HE.out]
       have e : (l.take k ++ x :: l.drop k).length = k + 1 + (l.length - k) := by simp; omega
       simp only [e]
       rw [rc_append, rc_cons, ← List.append_assoc]
       exact hown5
    ·obtain rfl : k = l.length := by omega
     have HE : Hid (putIR q l x = (0, l.take l.length ++ x :: l.drop l.length)) := Lib.hid (HPL.out _ (Nat.le_refl _) hno (fun h => absurd h (by omega)))
     have hO0 := HO.out wr (Below.refl _ _)
     have hdr : l.drop l.length = [] := List.drop_length ..
     clear hno hown hx1
     go_wp2_with fail
     refine wp_region_held_drew (S := (fun V => Below wr.heap.size wr V)) (by kernel_rfl) (by exact (Below.refl _ _).drew) (fun hHeld => ?_)
     refine tkI 0 21 rfl (by intro w hSw; obtain ⟨x0, x1, x2, x3, x4⟩ := (HXB.out _ hSw).got; go_simp <;> with_reducible rfl) hHeld ?_; simp only [pqZ]
     refine tkI 1 22 rfl (by intro w hSw; obtain ⟨x0, x1, x2, x3, x4⟩ := (HXB.out _ hSw).got; go_simp <;> with_reducible rfl) hHeld ?_; simp only [pqZ]
     refine tkI 2 23 rfl (by intro w hSw; obtain ⟨x0, x1, x2, x3, x4⟩ := (HXB.out _ hSw).got; go_simp <;> with_reducible rfl) hHeld ?_; simp only [pqZ]
     refine tkI 3 24 rfl (by intro w hSw; obtain ⟨x0, x1, x2, x3, x4⟩ := (HXB.out _ hSw).got; go_simp <;> with_reducible rfl) hHeld ?_; simp only [pqZ]
     refine tkI 4 25 rfl (by intro w hSw; obtain ⟨x0, x1, x2, x3, x4⟩ := (HXB.out _ hSw).got; go_simp <;> with_reducible rfl) hHeld ?_; simp only [pqZ]
     refine tkO 5 26 rfl (by kernel_rfl) (by rfl) hHeld ?_; simp only [pqZ]
     refine tkO 6 27 rfl (by kernel_rfl) (by rfl) hHeld ?_; simp only [pqZ]
     refine tkO 7 28 rfl (by kernel_rfl) (by rfl) hHeld ?_; simp only [pqZ]
     refine tkO 8 29 rfl (by kernel_rfl) (by rfl) hHeld ?_; simp only [pqZ]
     refine tkO 9 30 rfl (by kernel_rfl) (by rfl) hHeld ?_; simp only [pqZ]
     refine tkO 10 31 rfl (by kernel_rfl) (by rfl) hHeld ?_; simp only [pqZ]
     refine tkO 11 32 rfl (by kernel_rfl) (by rfl) hHeld ?_; simp only [pqZ]
     refine tkO 12 33 rfl (by kernel_rfl) (by rfl) hHeld ?_; simp only [pqZ]
     refine tkI 13 34 rfl (by intro w hSw; obtain ⟨x0, x1, x2, x3, x4⟩ := (HXB.out _ hSw).got; go_simp <;> with_reducible rfl) hHeld ?_; simp only [pqZ]
     refine wpAnyH_done (by kernel_rfl) ?_ _
     rcases hO0.2 with ⟨h0, h1⟩ | ⟨g', cap', cur', h0, _, _, h3, h4, _⟩
     ·injection h0 with e1 e2 e3
      subst e1; subst e3
      have hrn : l = [] := List.eq_nil_of_length_eq_zero h1
      subst hrn
      simp only [List.length_nil] at *
      have HS1 : Hid (∀ V, Below wr.heap.size wr V → Sl V none (rc Iq.cells (([] : List Iq).take 0))) := Lib.hid fun V hV => by rw [← rc_take Iq.len]; exact (Sl.of_own (HO.out V hV)).take _
      have hlt1 : (rc Iq.cells (([] : List Iq).take 0)).length = 0 * 5 := by rw [rc_length Iq.len, List.length_take, Nat.min_eq_left (by omega)]
      have HL1 := Lib.hid hlt1
      clear hlt1
      go_wp2_with (first
       | (at_builtin; refine wpList_app rfl (.tmp 37) (.tmp 40) rfl EIq rfl rfl (own_nil _ _ _) (m := 0) (news := rc Iq.cells (([] : List Iq).take 0)) HL1.out (HS1.out _ hHeld) (rc_one Iq.one _) (by unfold maxLen; omega) (by omega) (Nat.le_refl _) ?_; intro A2 c2 w3 hown2 hg2 hb2; simp only [Nat.zero_add, List.nil_append] at hown2; obtain ⟨x0, x1, x2, x3, x4⟩ := (HXB.out _ (hHeld.trans (hb2.mono hHeld.size))).got)
       | (at_builtin; refine wpList_app rfl (.tmp 42) (.tmp 44) rfl EIq rfl rfl (hown2.alloc _) (m := 1) (news := x.cells) rfl (Sl.new_ _ _ _) (Iq.one _) (by unfold maxLen; omega) (by omega) (by have h1 := hb2.size; simp only [World.size_alloc, World.size_drew] at h1 ⊢; omega) ?_; intro A3 c3 w4 hown3 hg3 hb3)
       | (at_builtin; refine wpList_app rfl (.tmp 46) (.tmp 49) rfl EIq rfl rfl hown3 (m := 0) (news := []) rfl Sl.nil (by intro u hu; cases hu) (by unfold maxLen; omega) (by omega) (by have h1 := hb2.size; have h2 := hb3.size; simp only [World.size_alloc, World.size_drew] at h1 h2 ⊢; omega) ?_; intro A4 c4 w5 hown4 hg4 hb4)
       | fail)
      have hBf := hB2.trans ((hHeld.mono (Nat.le_of_lt hxl)).trans ((hb2.trans (((Below.refl _ _).alloc hb2.size _).trans (hb3.trans hb4))).mono (Nat.le_trans (Nat.le_of_lt hxl) hHeld.size)))
      have hown5 := own_base hown4 (Nat.le_trans (Nat.le_of_lt hxl) hHeld.size)
      go_ret2
      refine ⟨⟨A4, c4, ?_, ?_⟩, hBf⟩
      ·rw [HE.out]
       have e : (([] : List Iq).take 0 ++ x :: ([] : List Iq).drop 0).length = 0 + 1 + 0 := by rw [hdr]; simp
       simp only [e]; rfl
      ·rw [HE.out]
       have e : (([] : List Iq).take 0 ++ x :: ([] : List Iq).drop 0).length = 0 + 1 + 0 := by rw [hdr]; simp
       simp only [e]
       rw [rc_append, rc_cons, hdr, ← List.append_assoc]
       exact hown5
     ·injection h0 with e1 e2 e3
      subst e1; subst e3
      unfold maxLen at h4
      by_cases hcr : cap = l.length
      ·subst hcr
       have HS1 : Hid (∀ V, Below wr.heap.size wr V → Sl V (some ⟨g', 0, none⟩) (rc Iq.cells (l.take l.length))) := Lib.hid fun V hV => by rw [← rc_take Iq.len]; exact (Sl.of_own (HO.out V hV)).take _
       have hlt1 : (rc Iq.cells (l.take l.length)).length = l.length * 5 := by rw [rc_length Iq.len, List.length_take, Nat.min_eq_left (by omega)]
       have HL1 := Lib.hid hlt1
       clear hlt1
       go_wp2_with (first
        | (at_builtin; refine wpList_app rfl (.tmp 37) (.tmp 40) rfl EIq rfl rfl (own_nil _ _ _) (m := l.length) (news := rc Iq.cells (l.take l.length)) HL1.out (HS1.out _ hHeld) (rc_one Iq.one _) (by unfold maxLen; omega) (by omega) (Nat.le_refl _) ?_; intro A2 c2 w3 hown2 hg2 hb2; simp only [Nat.zero_add, List.nil_append] at hown2; obtain ⟨x0, x1, x2, x3, x4⟩ := (HXB.out _ (hHeld.trans (hb2.mono hHeld.size))).got)
        | (at_builtin; refine wpList_app rfl (.tmp 42) (.tmp 44) rfl EIq rfl rfl (hown2.alloc _) (m := 1) (news := x.cells) rfl (Sl.new_ _ _ _) (Iq.one _) (by unfold maxLen; omega) (by omega) (by have h1 := hb2.size; simp only [World.size_alloc, World.size_drew] at h1 ⊢; omega) ?_; intro A3 c3 w4 hown3 hg3 hb3)
        | (at_builtin; refine wpList_app rfl (.tmp 46) (.tmp 49) rfl EIq rfl rfl hown3 (m := 0) (news := []) rfl Sl.nil (by intro u hu; cases hu) (by unfold maxLen; omega) (by omega) (by have h1 := hb2.size; have h2 := hb3.size; simp only [World.size_alloc, World.size_drew] at h1 h2 ⊢; omega) ?_; intro A4 c4 w5 hown4 hg4 hb4)
        | fail)
       have hBf := hB2.trans ((hHeld.mono (Nat.le_of_lt hxl)).trans ((hb2.trans (((Below.refl _ _).alloc hb2.size _).trans (hb3.trans hb4))).mono (Nat.le_trans (Nat.le_of_lt hxl) hHeld.size)))
       have hown5 := own_base hown4 (Nat.le_trans (Nat.le_of_lt hxl) hHeld.size)
       go_ret2
       refine ⟨⟨A4, c4, ?_, ?_⟩, hBf⟩
       ·rw [HE.out]
        have e : (l.take l.length ++ x :: l.drop l.length).length = l.length + 1 + 0 := by rw [hdr]; simp
        simp only [e]; rfl
       ·rw [HE.out]
        have e : (l.take l.length ++ x :: l.drop l.length).length = l.length + 1 + 0 := by rw [hdr]; simp
        simp only [e]
        rw [rc_append, rc_cons, hdr, ← List.append_assoc]
        exact hown5
      ·have hck : ¬ (cap = l.length) := hcr
       have HS1 : Hid (∀ V, Below wr.heap.size wr V → Sl V (some ⟨g', 0, none⟩) (rc Iq.cells (l.take l.length))) := Lib.hid fun V hV => by rw [← rc_take Iq.len]; exact (Sl.of_own (HO.out V hV)).take _
       have hlt1 : (rc Iq.cells (l.take l.length)).length = l.length * 5 := by rw [rc_length Iq.len, List.length_take, Nat.min_eq_left (by omega)]
       have HL1 := Lib.hid hlt1
       clear hlt1
       go_wp2_with (first
        | (at_builtin; refine wpList_app rfl (.tmp 37) (.tmp 40) rfl EIq rfl rfl (own_nil _ _ _) (m := l.length) (news := rc Iq.cells (l.take l.length)) HL1.out (HS1.out _ hHeld) (rc_one Iq.one _) (by unfold maxLen; omega) (by omega) (Nat.le_refl _) ?_; intro A2 c2 w3 hown2 hg2 hb2; simp only [Nat.zero_add, List.nil_append] at hown2; obtain ⟨x0, x1, x2, x3, x4⟩ := (HXB.out _ (hHeld.trans (hb2.mono hHeld.size))).got)
        | (at_builtin; refine wpList_app rfl (.tmp 42) (.tmp 44) rfl EIq rfl rfl (hown2.alloc _) (m := 1) (news := x.cells) rfl (Sl.new_ _ _ _) (Iq.one _) (by unfold maxLen; omega) (by omega) (by have h1 := hb2.size; simp only [World.size_alloc, World.size_drew] at h1 ⊢; omega) ?_; intro A3 c3 w4 hown3 hg3 hb3)
        | (at_builtin; refine wpList_app rfl (.tmp 46) (.tmp 49) rfl EIq rfl rfl hown3 (m := 0) (news := []) rfl Sl.nil (by intro u hu; cases hu) (by unfold maxLen; omega) (by omega) (by have h1 := hb2.size; have h2 := hb3.size; simp only [World.size_alloc, World.size_drew] at h1 h2 ⊢; omega) ?_; intro A4 c4 w5 hown4 hg4 hb4)
        | fail)
       have hBf := hB2.trans ((hHeld.mono (Nat.le_of_lt hxl)).trans ((hb2.trans (((Below.refl _ _).alloc hb2.size _).trans (hb3.trans hb4))).mono (Nat.le_trans (Nat.le_of_lt hxl) hHeld.size)))
       have hown5 := own_base hown4 (Nat.le_trans (Nat.le_of_lt hxl) hHeld.size)
       go_ret2
       refine ⟨⟨A4, c4, ?_, ?_⟩, hBf⟩
       ·rw [HE.out]
        have e : (l.take l.length ++ x :: l.drop l.length).length = l.length + 1 + 0 := by rw [hdr]; simp
        simp only [e]; rfl
       ·rw [HE.out]
        have e : (l.take l.length ++ x :: l.drop l.length).length = l.length + 1 + 0 := by rw [hdr]; simp
        simp only [e]
        rw [rc_append, rc_cons, hdr, ← List.append_assoc]
        exact hown5
  ·have HR : Hid (putIR q l x = (12, [])) := Lib.hid (by rw [putIR, if_neg (by simpa using hok), if_pos hh])
   have HH := Lib.hid hh
   clear hok hh hat hfk hid hbefore hsd
   unfold Iq.val at HIS ⊢
   go_enter Tryz.func84, Tryz.ntmps84
   go_wp2_with fail
   refine (HIS.out _ hB0).mono ?_
   rintro e w1 ⟨rfl, hb1⟩
   have hB1 := since_step hB0 hb1
   have hx1 := hx0.below hb1
   have hown1 := own_below hown0 hb1
   obtain ⟨x0, x1, x2, x3, x4⟩ := hx1.got
   clear hb1
   rw [HI.out]
   go_wp2_with fail
   refine (HFD.out _ (Sl.of_own hown1)).mono ?_
   rintro e w2 ⟨rfl, hb2⟩
   have hB2' := since_step hB1 hb2
   have hx2 := hx1.below hb2
   have hown2' := own_below hown1 hb2
   clear x0 x1 x2 x3 x4 hb2 hown1 hx1 hx0 hown0
   rw [HH.out]
   generalize findI l x.id = fm
   unfold Iq.val
   have hB1 := since_alloc hB2' (.cells fm.cells.toArray 92)
   have hx1 := hx2.below ((Below.refl _ _).alloc (Nat.le_refl _) (.cells fm.cells.toArray 92))
   have hown := hown2'.alloc (.cells fm.cells.toArray 92)
   have hcs := @cell_set
   clear hB2' hx2 hown2'
   go_wp2_with fail
   go_ret2
   rw [HR.out]
   exact ⟨IRes.nil _ _ _, hB1⟩
structure GI (w : World) (g : Iq) (i : Ins) : Prop where
  id : g.id = i.id
  mult : g.mult = i.mult
  price : g.price = i.price
  nxt : g.nxt = i.nxt
  len : g.mvL = i.mv.length
  at_ : InsAt w i g.mv g.mvC
theorem GI.below {w w' : World} {g : Iq} {i : Ins} (h : GI w g i) (hb : Below w.heap.size w w') : GI w' g i := ⟨h.id, h.mult, h.price, h.nxt, h.len, h.at_.below hb⟩
theorem GI.val {w : World} {g : Iq} {i : Ins} (h : GI w g i) : g.val = insV i g.mv g.mvC := by
  obtain ⟨a, b, c, d, e, f, k⟩ := g
  obtain ⟨h0, h1, h2, h3, h4, _⟩ := h
  simp only at h0 h1 h2 h3 h4
  subst h0; subst h1; subst h2; subst h3; subst h4
  rfl
def GoodI (w : World) (l : List Iq) : Prop := ∀ g ∈ l, ∃ i : Ins, GI w g i
theorem GoodI.below {w w' : World} {l : List Iq} (h : GoodI w l) (hb : Below w.heap.size w w') : GoodI w' l := fun g hg => by
  obtain ⟨i, hi⟩ := h g hg
  exact ⟨i, hi.below hb⟩
def InTab (w : World) (l : List Iq) (is : List Ins) : Prop := l.length = is.length ∧ ∀ k, (h : k < l.length) → (h2 : k < is.length) → GI w l[k] is[k]
theorem InTab.below {w w' : World} {l : List Iq} {is : List Ins} (h : InTab w l is) (hb : Below w.heap.size w w') : InTab w' l is := ⟨h.1, fun k h1 h2 => (h.2 k h1 h2).below hb⟩
theorem InTab.nil (w : World) : InTab w [] [] := ⟨rfl, fun k h => by simp at h⟩
theorem InTab.cons {w : World} {g : Iq} {i : Ins} {l : List Iq} {is : List Ins} (h : GI w g i) (ht : InTab w l is) : InTab w (g :: l) (i :: is) :=
  ⟨by simp [ht.1], fun k h1 h2 => by
    cases k with
    | zero => exact h
    | succ k => exact ht.2 k (by simpa using h1) (by simpa using h2)⟩
theorem GoodI.tab {w : World} : ∀ {l : List Iq}, GoodI w l → ∃ is : List Ins, InTab w l is
  | [], _ => ⟨[], InTab.nil w⟩
  | g :: l, h => by
    obtain ⟨is, ht⟩ := GoodI.tab (l := l) fun x hx => h x (List.mem_cons_of_mem _ hx)
    obtain ⟨i, hi⟩ := h g List.mem_cons_self
    exact ⟨i :: is, InTab.cons hi ht⟩
def fndI (is : List Ins) (id : Int) : Option Ins := is.find? fun i => i.id == id
theorem InTab.find {w : World} (id : Int) : ∀ {l : List Iq} {is : List Ins}, InTab w l is → (l.find? (idI id) = none ∧ fndI is id = none) ∨ (∃ g i, l.find? (idI id) = some g ∧ fndI is id = some i ∧ GI w g i)
  | [], [], _ => .inl ⟨rfl, rfl⟩
  | [], _ :: _, h => by have := h.1; simp at this
  | _ :: _, [], h => by have := h.1; simp at this
  | g :: l, i :: is, h => by
    have h0 := h.2 0 (by simp) (by simp)
    have ht : InTab w l is := ⟨by simpa using h.1, fun k h1 h2 => h.2 (k + 1) (by simpa using h1) (by simpa using h2)⟩
    simp only [List.getElem_cons_zero] at h0
    unfold fndI
    rw [List.find?_cons, List.find?_cons]
    have e : idI id g = (i.id == id) := by unfold idI; rw [h0.id]
    rw [e]
    cases hq : (i.id == id) with
    | true => exact .inr ⟨g, i, rfl, rfl, h0⟩
    | false => exact InTab.find id ht
theorem mem_fndI {is : List Ins} {id : Int} {i : Ins} (h : fndI is id = some i) : i ∈ is := List.mem_of_find?_eq_some h
def FIns (w' : World) (e : Ending) (r : Option Ins) : Prop :=
  match r with
  | none => e = .returned (.tuple #[.agg #[.int .i64 0, .int .i64 0, .int .i64 0, .int .i64 0, .slice none 0 0], .bool false])
  | some i => ∃ A' c', e = .returned (.tuple #[insV i A' c', .bool true]) ∧ InsAt w' i A' c'
theorem iplace1_any (x : Iq) (id : Int) (b : Nat) (w : World) (h0 : w.cell? ⟨b, 0, none⟩ = some (.int .i64 id)) :
    Calls Tryz.prog 138 #[x.val, .pointer (some ⟨b, 0, none⟩)] w fun e w' => e = .returned (.bool (idI id x)) ∧ Below w.heap.size w w' := by
  have hB := since_alloc (Below.refl _ w) (.cells x.cells.toArray 92)
  have hlt := World.block_lt_of_cell? _ _ h0
  unfold Iq.val
  go_enter Tryz.func138, Tryz.ntmps138
  go_wp2_with fail
  go_ret
  exact ⟨rfl, hB⟩
theorem ent_iplace1 : Ent Tryz.prog 138 := Ent.of (by kernel_rfl)
theorem tells_iplace1 (id : Int) (b : Nat) (w : World) (h : w.cell? ⟨b, 0, none⟩ = some (.int .i64 id)) : Iq.Tells 138 #[.pointer (some ⟨b, 0, none⟩)] (idI id) w.heap.size w :=
  fun x W hW => iplace1_any x id b W ((hW.cell (p := ⟨b, 0, none⟩) (World.block_lt_of_cell? _ _ h)).trans h)
theorem iplace_any (A : Option Addr) (cap : Nat) (l : List Iq) (id : Int) (w : World) (hl : l.length ≤ 1000000) (hs : Sl w A (rc Iq.cells l)) :
    Calls Tryz.prog 132 #[.slice A l.length cap, .int .i64 id] w fun e w' => e = .returned (.int .i64 (atL (idI id) l)) ∧ Below w.heap.size w w' := by
  go_enter Tryz.func132, Tryz.ntmps132
  go_wp2_with fail
  refine (index_iq A cap l 138 #[.pointer (some ⟨w.heap.size, 0, none⟩)] (idI id) _ hl (hs.alloc _) ent_iplace1 (tells_iplace1 id w.heap.size _ (by simp))).mono ?_
  rintro e w1 ⟨rfl, hb1⟩
  have hB1 := since_step (since_alloc (Below.refl _ _) _) hb1
  clear hb1
  go_wp2_with fail
  go_ret
  exact ⟨rfl, hB1⟩
theorem sx_ints : ∀ l : List Int, rc Sx.cells (l.map Sx.mk) = ints .i64 l
  | [] => rfl
  | x :: l => by rw [List.map_cons, rc_cons, sx_ints l]; rfl
theorem ifind_any (A : Option Addr) (cap : Nat) (l : List Iq) (is : List Ins) (id : Int) (w : World) (hl : l.length ≤ 900000) (hcl : ∀ i ∈ is, i.mv.length ≤ 900000) (hs : Sl w A (rc Iq.cells l)) (ht : InTab w l is) :
    Calls Tryz.prog 127 #[.slice A l.length cap, .int .i64 id] w fun e w' => FIns w' e (fndI is id) ∧ Below w.heap.size w w' := by
  have hB0 := since_alloc (Below.refl _ w) (.cells #[.int .i64 0, .int .i64 0, .int .i64 0, .int .i64 0, .slice none 0 0] 92)
  have hZ0 := BzIq.new w
  have hs0 := hs.alloc (.cells #[.int .i64 0, .int .i64 0, .int .i64 0, .int .i64 0, .slice none 0 0] 92)
  have ht0 := ht.below ((Below.refl _ _).alloc (Nat.le_refl _) (.cells #[.int .i64 0, .int .i64 0, .int .i64 0, .int .i64 0, .slice none 0 0] 92))
  have hfd := ht.find id
  have HPL := Lib.hid (fun V h => iplace_any A cap l id V (by omega) h)
  have hcs := @cell_set
  clear hs ht
  rcases casesI l id with ⟨h0, hat, _, hn⟩ | ⟨k, hk, h0, hat, hf, hid, _⟩
  · have HR : Hid (fndI is id = none) := Lib.hid (by rcases hfd with ⟨_, h⟩ | ⟨g, i, h, _⟩; exact h; rw [hn] at h; cases h)
    have HAT := Lib.hid hat
    clear hfd h0 hat hn
    go_enter Tryz.func127, Tryz.ntmps127
    go_wp2_with fail
    refine (HPL.out _ hs0).mono ?_
    rw [HAT.out]
    rintro e w1 ⟨rfl, hb⟩
    have hB1 := since_step hB0 hb
    have hZ1 := hZ0.below hb
    clear hb
    obtain ⟨z0, z1, z2, z3, z4⟩ := hZ1.got
    have fz := hZ1.fz
    have lz := hZ1.bk.1
    go_wp2_with fail
    refine bodyPost_ret (v := .tuple #[.agg #[.int .i64 0, .int .i64 0, .int .i64 0, .int .i64 0, .slice none 0 0], .bool false]) ?_ rfl ⟨?_, ?_⟩
    · simp [results, Tryz.results127, go_sem, z0, z1, z2, z3, z4, fz]
    · rw [HR.out]; rfl
    · repeat' (first | with_reducible exact hB1 | with_reducible refine Below.setCell ?_ ?_ _ | with_reducible refine Below.alloc ?_ ?_ _)
      all_goals first | (simp; done) | (simp; omega)
  · obtain ⟨i, hc1, hc2, hc3⟩ : ∃ i, fndI is id = some i ∧ GI (w.alloc (.cells #[.int .i64 0, .int .i64 0, .int .i64 0, .int .i64 0, .slice none 0 0] 92)) l[k] i ∧ i.mv.length ≤ 900000 := by
      rcases hfd with ⟨h, _⟩ | ⟨g, i, h1, h2, h3⟩
      · rw [hasI, h] at h0; cases h0
      · have hg : findI l id = g := by rw [findI, pickL, h1]; rfl
        rw [hf] at hg
        rw [hg]
        exact ⟨i, h2, h3.below ((Below.refl _ _).alloc (Nat.le_refl _) _), hcl i (mem_fndI h2)⟩
    have HR := Lib.hid hc1
    have HAT := Lib.hid hat
    have hk0 : ¬ ((k : Int) < 0) := by omega
    have hk1 : (0 : Int) ≤ (k : Int) := by omega
    have hk2 : (k : Int) < (l.length : Int) := by omega
    clear hfd h0 hat hf hc1 hcl hid
    go_enter Tryz.func127, Tryz.ntmps127
    go_wp2_with fail
    refine (HPL.out _ hs0).mono ?_
    rw [HAT.out]
    rintro e w1 ⟨rfl, hb⟩
    have hB1 := since_step hB0 hb
    have hZ1 := hZ0.below hb
    have hi1 := hc2.below hb
    obtain ⟨b, o, rfl, hbw, hg⟩ := (hs0.below hb).iq hk
    clear hb hc2
    generalize l[k] = v at *
    obtain ⟨a0, a1, a2, a3, p1, aL, p2⟩ := v
    obtain ⟨i0, i1, i2, i3, i4, hat2⟩ := hi1
    simp only at i0 i1 i2 i3 i4 hat2
    subst i0; subst i1; subst i2; subst i3; subst i4
    obtain ⟨g0, g1, g2, g3, g4⟩ := hg
    simp only at g0 g1 g2 g3 g4
    have hsl : Sl w1 p1 (rc Sx.cells (i.mv.map Sx.mk)) := by rw [sx_ints]; exact hat2.sl
    have HML : Hid ((i.mv.map Sx.mk).length = i.mv.length) := Lib.hid (by simp)
    have HDU := dup1_iq i.id i.mult i.price i.nxt p1 p2 (i.mv.map Sx.mk) w1 (by rw [HML.out]; exact hc3) hsl
    rw [HML.out, sx_ints] at HDU
    have HDU := Lib.hid HDU
    have HIA := Lib.hid hat2
    clear hsl hat2
    go_wp2_with fail
    refine HDU.out.mono ?_
    rintro e w2 ⟨⟨A3, c3, rfl, own3⟩, hb2⟩
    have hB2 := since_step hB1 hb2
    have hZ2 := hZ1.below hb2
    have lz1 := hZ1.bk.1
    clear hb2 g0 g1 g2 g3 g4
    obtain ⟨z0, z1, z2, z3, z4⟩ := hZ2.got
    have fz := hZ2.fz
    have lz := hZ2.bk.1
    have hcp := own_capI own3
    go_wp2_with fail
    refine bodyPost_ret (v := .tuple #[.agg #[.int .i64 i.id, .int .i64 i.mult, .int .i64 i.price, .int .i64 i.nxt, .slice A3 i.mv.length c3], .bool true]) ?_ rfl ⟨?_, ?_⟩
    · simp [results, Tryz.results127, go_sem, z0, z1, z2, z3, z4, fz, hcs]
    · rw [HR.out]
      refine ⟨A3, c3, rfl, ⟨hcp, Sl.of_own (base := w1.heap.size) (e := 2) (size := 1) (n := i.mv.length) (c := c3) ?_, HIA.out.mv64, HIA.out.n64⟩⟩
      repeat' (first | with_reducible exact own3 | with_reducible refine own_setFar' ?_ ?_ _)
      all_goals first | (simp; done) | (simp; omega)
    · repeat' (first | with_reducible exact hB2 | with_reducible refine Below.setCell ?_ ?_ _ | with_reducible refine Below.alloc ?_ ?_ _)
      all_goals first | (simp; done) | (simp; omega)
end
end Go.Proofs.YtmjndpkfhdoljaaGreat
