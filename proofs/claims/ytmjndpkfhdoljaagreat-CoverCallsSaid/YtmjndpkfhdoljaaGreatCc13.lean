import Derived.Test.YtmjndpkfhdoljaaGreatCc12
import Derived.Test.YtmjndpkfhdoljaaGreatCc07
import Derived.Test.YtmjndpkfhdoljaaGreatCc08
set_option maxHeartbeats 16000000
set_option maxRecDepth 100000
set_option linter.unusedVariables false
set_option linter.unusedSimpArgs false
namespace Go.Proofs.YtmjndpkfhdoljaaGreat
open Go.ChangeShapes Go.WideShapes Go.ChangeAt Go.RowKit
section
theorem ELgL : Elem Tryz.prog 157 93 1 24 := Elem.mk' (z := .slice none 0 0) (by kernel_rfl) (by kernel_rfl) (by decide) (by decide)
theorem sumG_map (S : List (RowS Lg)) (i j : Nat) : sumG S i j = (((S.map RowS.l).take i).map fun l => getG l ((j : Int) + 1)).sum := by
  unfold sumG
  rw [← List.map_take, List.map_map]; rfl
theorem addR_eq {S U : List (RowS Lg)} (h : S.map RowS.l = U.map RowS.l) : addR S = addR U := by
  have hl : S.length = U.length := by have := congrArg List.length h; simpa using this
  have h1 : (∀ s ∈ S, isG s.l = true) ↔ ∀ s ∈ U, isG s.l = true := by
    have e : ∀ X : List (RowS Lg), (∀ s ∈ X, isG s.l = true) ↔ ∀ l ∈ X.map RowS.l, isG l = true := fun X => by
      constructor
      · intro hx l hl
        obtain ⟨s, hs, rfl⟩ := List.mem_map.1 hl
        exact hx s hs
      · intro hx s hs
        exact hx _ (List.mem_map.2 ⟨s, hs, rfl⟩)
    rw [e, e, h]
  have h2 : ((List.range 8).map fun j : Nat => sumG S S.length j) = (List.range 8).map fun j : Nat => sumG U U.length j := List.map_congr_left fun j _ => by rw [sumG_map, sumG_map, h, hl]
  unfold addR
  rw [h2]
  by_cases hs : ∀ s ∈ S, isG s.l = true
  · rw [if_pos hs, if_pos (h1.1 hs)]
  · rw [if_neg hs, if_neg (fun h => hs (h1.2 h))]
noncomputable def addL (L : List (List Lg)) : Int × List Lg := addR (L.map fun l => ⟨none, 0, l⟩)
theorem addR_L (S : List (RowS Lg)) : addR S = addL (S.map RowS.l) := addR_eq (by simp [List.map_map, Function.comp])
theorem addR_len (S : List (RowS Lg)) : (addR S).2.length ≤ 8 := by
  unfold addR
  split
  · unfold ofR
    split
    · have := legsF_len 1 ((List.range 8).map fun j : Nat => sumG S S.length j)
      simpa using this
    · simp
  · simp
end
section
def ahH (x y : Pc) : Bool := keyLt x.ac x.cl y.ac y.cl
theorem ordH : Ord ahH := ord_key Pc.ac Pc.cl
def ahHd (x y : Po) : Bool := keyLt x.ac x.cl y.ac y.cl
def unH (a c : Int) (x : Pc) : Bool := x.ac == a && x.cl == c
def unHd (a c : Int) (x : Po) : Bool := x.ac == a && x.cl == c
theorem unH_iff (a c : Int) (x : Pc) : unH a c x = true ↔ x.ac = a ∧ x.cl = c := by simp [unH]
theorem ah_is {w : World} (g : Po) (c : Pc) (g' : Po) (c' : Pc) (h : PoIs w g c) (h' : PoIs w g' c') : ahHd g g' = ahH c c' := by
  unfold ahHd ahH; rw [h.ac, h.cl, h'.ac, h'.cl]
theorem un_is {w : World} (a k : Int) (g : Po) (c : Pc) (h : PoIs w g c) : unHd a k g = unH a k c := by
  unfold unHd unH; rw [h.ac, h.cl]
def okH (x : Pc) : Bool := !(x.L.length == 0) && isG x.L
def isH (cs : List Pc) : Bool := cs.all okH && risingL ahH cs
def lotsH (cs : List Pc) (a c : Int) : List Lg := ((cs.find? (unH a c)).map Pc.L).getD []
def CapH (A : Option Addr) (n cap : Nat) : Prop := (A = none ∧ n = 0 ∧ cap = 0) ∨ (∃ b, A = some ⟨b, 0, none⟩ ∧ n ≤ cap ∧ cap ≤ maxLen)
theorem CapH.of_own {w : World} {B e s n c : Nat} {A : Option Addr} {xs : List Value} (h : w.ownsRow B e s (.slice A n c) n xs) : CapH A n c := by
  rcases h.2 with ⟨hv, h0⟩ | ⟨g, cap, cur, hv, hg, hh, hnc, hcm, _⟩
  · injection hv with e1 e2 e3; exact .inl ⟨e1, h0, e3⟩
  · injection hv with e1 e2 e3; subst e3; exact .inr ⟨g, e1, hnc, hcm⟩
def HRes (w' : World) (e : Ending) (R : Int × List Pc) : Prop :=
  ∃ (l : List Po) (A' : Option Addr) (c' : Nat), e = .returned (.tuple #[.slice A' l.length c', .int .i64 R.1]) ∧ Sl w' A' (rc Po.cells l) ∧ PoTab w' l R.2 ∧ CapH A' l.length c'
theorem HRes.nil (w' : World) (n : Int) : HRes w' (.returned (.tuple #[.slice none 0 0, .int .i64 n])) (n, []) := ⟨[], none, 0, rfl, Sl.nil, PoTab.nil _, .inl ⟨rfl, rfl, rfl⟩⟩
abbrev SoH (cs : List Pc) : Prop := cs.Pairwise (fun a b => ahH a b = true)
theorem isH_iff (cs : List Pc) : isH cs = true ↔ (∀ x ∈ cs, okH x = true) ∧ SoH cs := by
  unfold isH
  rw [Bool.and_eq_true, List.all_eq_true, rising_pairwise ordH]
theorem isH_bad {cs : List Pc} {k : Nat} (h : k < cs.length) (hb : okH cs[k] = false) : isH cs = false := by
  rw [← Bool.not_eq_true]
  intro hi
  have := ((isH_iff cs).1 hi).1 _ (List.getElem_mem h)
  rw [hb] at this; cases this
theorem isH_end {cs : List Pc} (h1 : ∀ j, (hj : j < cs.length) → okH cs[j] = true) : isH cs = risingL ahH cs := by
  have : cs.all okH = true := by
    rw [List.all_eq_true]
    intro x hx
    obtain ⟨j, hj, rfl⟩ := List.getElem_of_mem hx
    exact h1 j hj
  unfold isH
  rw [this, Bool.true_and]
theorem okH_zero {x : Pc} (h : x.L.length = 0) : okH x = false := by
  unfold okH; rw [h]; rfl
theorem okH_some {x : Pc} (h : x.L.length ≠ 0) : okH x = isG x.L := by
  have : (x.L.length == 0) = false := by simpa using h
  unfold okH; rw [this]; rfl
theorem lots_cases (cs : List Pc) (a c : Int) : (lotsH cs a c = [] ∧ ∀ x ∈ cs, unH a c x = false) ∨ (∃ x ∈ cs, x.ac = a ∧ x.cl = c ∧ lotsH cs a c = x.L) := by
  unfold lotsH
  cases hf : cs.find? (unH a c) with
  | none => exact .inl ⟨rfl, fun x hx => by simpa using List.find?_eq_none.1 hf x hx⟩
  | some y =>
    obtain ⟨h1, h2⟩ := (unH_iff _ _ _).1 (List.find?_some hf)
    exact .inr ⟨y, List.mem_of_find?_eq_some hf, h1, h2, rfl⟩
theorem lots_in6 {cs : List Pc} (h : ∀ g ∈ cs, ∀ y ∈ g.L, In64 y.qty) (a c : Int) : ∀ y ∈ lotsH cs a c, In64 y.qty := by
  rcases lots_cases cs a c with ⟨e, _⟩ | ⟨x, hx, _, _, e⟩
  · rw [e]; intro y hy; cases hy
  · rw [e]; exact h x hx
theorem lotsH_len {cs : List Pc} {n : Nat} (h : ∀ g ∈ cs, g.L.length ≤ n) (a c : Int) : (lotsH cs a c).length ≤ n := by
  rcases lots_cases cs a c with ⟨e, _⟩ | ⟨x, hx, _, _, e⟩
  · rw [e]; simp
  · rw [e]; exact h x hx
theorem own_lower {w : World} {B B' e size n : Nat} {v : Value} {xs : List Value} (h : w.ownsRow B e size v n xs) (hb : B' ≤ B) : w.ownsRow B' e size v n xs := by
  obtain ⟨h0, h⟩ := h
  refine ⟨h0, ?_⟩
  rcases h with h | ⟨g, cap, cur, h1, h2, h⟩
  · exact .inl h
  · exact .inr ⟨g, cap, cur, h1, Nat.le_trans hb h2, h⟩
end
section
theorem aless_any (ua uc va vc : Int) (w : World) : Calls Tryz.prog 91 #[.agg #[.int .i64 ua, .int .i64 uc], .agg #[.int .i64 va, .int .i64 vc]] w fun e w' => e = .returned (.bool (keyLt ua uc va vc)) ∧ Below w.heap.size w w' := by
  have hB := since_alloc (since_alloc (Below.refl _ w) (.cells #[.int .i64 ua, .int .i64 uc] 41)) (.cells #[.int .i64 va, .int .i64 vc] 41)
  by_cases h1 : ua < va
  · have HE : Hid (keyLt ua uc va vc = true) := Lib.hid (by simp [keyLt, h1])
    go_enter Tryz.func91, Tryz.ntmps91
    go_wp2_with fail
    go_ret
    exact ⟨retB HE.out.symm, hB⟩
  by_cases h2 : ua = va
  · subst h2
    have HE : Hid (keyLt ua uc ua vc = decide (uc < vc)) := Lib.hid (by simp [keyLt])
    go_enter Tryz.func91, Tryz.ntmps91
    go_wp2_with fail
    go_ret
    exact ⟨retB HE.out.symm, hB⟩
  · have HE : Hid (keyLt ua uc va vc = false) := Lib.hid (decide_eq_false (by omega))
    have h2b : (ua == va) = false := by simpa using h2
    clear h2
    go_enter Tryz.func91, Tryz.ntmps91
    go_wp2_with fail
    go_ret
    exact ⟨retB HE.out.symm, hB⟩
theorem pahead_any (x y : Fw) (w : World) : Calls Tryz.prog 52 #[x.val, y.val] w fun e w' => e = .returned (.bool (ahF x y)) ∧ Below w.heap.size w w' := by
  obtain ⟨ua, uc, uq⟩ := x
  obtain ⟨va, vc, vq⟩ := y
  unfold Fw.val ahF
  simp only
  have hB := since_alloc (since_alloc (Below.refl _ w) (.cells #[.int .i64 ua, .int .i64 uc, .int .i64 uq] 50)) (.cells #[.int .i64 va, .int .i64 vc, .int .i64 vq] 50)
  go_enter Tryz.func52, Tryz.ntmps52
  go_wp2_with fail
  refine (aless_any ua uc va vc _).mono ?_
  rintro e w1 ⟨rfl, hb⟩
  have hB1 := since_step hB hb
  go_wp2_with fail
  go_ret
  exact ⟨rfl, hB1⟩
theorem ent_pahead : Ent Tryz.prog 52 := Ent.of (by kernel_rfl)
theorem tells_pahead (B : Nat) (w : World) : Fw.Tells2 52 #[] ahF B w := fun a b W _ => pahead_any a b W
theorem isF_bad {l : List Fw} {k : Nat} (h : k < l.length) (hb : l[k].amt = 0) : isF l = false := by
  rw [← Bool.not_eq_true]
  intro hi
  exact isF_amt hi _ (List.getElem_mem h) hb
theorem isF_end {l : List Fw} (h1 : ∀ j, (hj : j < l.length) → l[j].amt ≠ 0) : isF l = risingL ahF l := by
  have : l.all (fun x => x.amt != 0) = true := by
    rw [List.all_eq_true]
    intro x hx
    obtain ⟨j, hj, rfl⟩ := List.getElem_of_mem hx
    simpa using h1 j hj
  unfold isF
  rw [this, Bool.true_and]
theorem pis_any (A : Option Addr) (cap : Nat) (l : List Fw) (w : World) (hl : l.length ≤ 1000000) (hs : Sl w A (rc Fw.cells l)) :
    Calls Tryz.prog 22 #[.slice A l.length cap] w fun e w' => e = .returned (.bool (isF l)) ∧ Below w.heap.size w w' := by
  go_enter Tryz.func22, Tryz.ntmps22
  go_wp2_with fail
  go_loopw [7] (fun i wr => ∃ k : Nat, k ≤ l.length ∧ i = .int .i64 k ∧ (∀ j, (hj : j < l.length) → j < k → l[j].amt ≠ 0) ∧ Below w.heap.size w wr) (fun i _ => l.length - (intOf i).toNat)
  case atStart => exact ⟨0, by omega, rfl, fun j hj h => absurd h (by omega), Below.refl _ _⟩
  case round =>
    obtain ⟨k, hk, rfl, hno, hB⟩ := hrel
    by_cases hlt : k < l.length
    · obtain ⟨b, o, rfl, hbw, hg⟩ := (hs.below hB).fw hlt
      have hlk : (k : Int) < (l.length : Int) := by omega
      have hA := since_alloc hB (.cells l[k].cells.toArray 50)
      have HNX : Hid (l[k].amt ≠ 0 → ∀ j, (hj : j < l.length) → j < k + 1 → l[j].amt ≠ 0) := Lib.hid (fun h j hj hjk => by
        rcases Nat.lt_or_ge j k with h' | h'
        · exact hno j hj h'
        · obtain rfl : j = k := by omega
          exact h)
      have HBD : Hid (l[k].amt = 0 → isF l = false) := Lib.hid (fun h => isF_bad hlt h)
      clear hno
      generalize l[k] = v at *
      obtain ⟨va, vc, vq⟩ := v
      obtain ⟨g0, g1, g2⟩ := hg
      unfold Fw.cells at hA
      simp only at g0 g1 g2 hA HNX HBD
      by_cases hq : vq = 0
      · have HR := Lib.hid (HBD.out hq)
        have hqb : (vq == 0) = true := by simpa using hq
        clear HBD HNX hq
        go_wp2_with fail
        go_ret
        exact ⟨retB HR.out.symm, hA⟩
      · have HN := Lib.hid (HNX.out hq)
        have hqb : (vq == 0) = false := by simpa using hq
        clear HBD HNX hq
        go_wp2_with fail
        go_roundw
        case rel => exact ⟨k + 1, by omega, by go_num, HN.out, hA⟩
        case measure => simp [intOf]; omega
    · obtain rfl : k = l.length := by omega
      have HR := Lib.hid (isF_end fun j hj => hno j hj hj)
      have hs1 := hs.below hB
      clear hno
      go_wp2_with fail
      refine (rising_fw A cap l 52 #[] ahF _ hl hs1 ent_pahead (tells_pahead _ _)).mono ?_
      rintro e w1 ⟨rfl, hb1⟩
      have hB1 := since_step hB hb1
      go_wp2_with fail
      go_ret
      exact ⟨retB HR.out.symm, hB1⟩
theorem pget1_any (x : Fw) (z : Un) (b : Nat) (w : World) (hb : Bk w b z.cells.toArray) :
    Calls Tryz.prog 64 #[x.val, .pointer (some ⟨b, 0, none⟩)] w fun e w' => e = .returned (.bool (unF z.ac z.cl x)) ∧ Below w.heap.size w w' := by
  have hlt := hb.1
  have q0 := hb.2 0
  have q1 := hb.2 1
  have hB := since_alloc (Below.refl _ w) (.cells x.cells.toArray 50)
  obtain ⟨va, vc, vq⟩ := x
  obtain ⟨za, zc⟩ := z
  unfold Fw.val unF
  unfold Fw.cells at hB
  simp only [Un.cells] at q0 q1 hB ⊢
  simp at q0 q1
  clear hb
  by_cases h1 : va = za
  · subst h1
    by_cases h2 : vc = zc
    · subst h2
      go_enter Tryz.func64, Tryz.ntmps64
      go_wp2_with fail
      go_ret
      exact ⟨retB (by simp), hB⟩
    · have h2b : (vc == zc) = false := by simpa using h2
      go_enter Tryz.func64, Tryz.ntmps64
      go_wp2_with fail
      go_ret
      exact ⟨retB (by simp [h2]), hB⟩
  · have h1b : (va == za) = false := by simpa using h1
    go_enter Tryz.func64, Tryz.ntmps64
    go_wp2_with fail
    go_ret
    exact ⟨retB (by simp [h1]), hB⟩
theorem ent_pget1 : Ent Tryz.prog 64 := Ent.of (by kernel_rfl)
theorem tells_pget1 (z : Un) (b : Nat) (w : World) (h : Bk w b z.cells.toArray) : Fw.Tells 64 #[.pointer (some ⟨b, 0, none⟩)] (unF z.ac z.cl) w.heap.size w :=
  fun g W hW => pget1_any g z b W (h.below hW)
theorem pget_any (A : Option Addr) (cap : Nat) (l : List Fw) (a c : Int) (w : World) (hl : l.length ≤ 1000000) (hs : Sl w A (rc Fw.cells l)) :
    Calls Tryz.prog 27 #[.slice A l.length cap, .agg #[.int .i64 a, .int .i64 c]] w fun e w' => e = .returned (.int .i64 (getF l a c)) ∧ Below w.heap.size w w' := by
  obtain ⟨v, hv⟩ : ∃ v, pickL (unF a c) Fw.zero l = v := ⟨_, rfl⟩
  have HFD := Lib.hid (fun V h1 h2 => (find_fw A cap l 64 #[.pointer (some ⟨w.heap.size, 0, none⟩)] (unF a c) V hl h1 ent_pget1 h2))
  rw [show getF l a c = v.amt from by unfold getF; rw [hv]]
  rw [hv] at HFD
  obtain ⟨va, vc, vq⟩ := v
  unfold Fw.val at HFD
  simp only at HFD ⊢
  clear hv
  have hB0 := since_alloc (Below.refl _ w) (.cells #[.int .i64 a, .int .i64 c] 41)
  have hK := Bk.new w #[.int .i64 a, .int .i64 c] 41
  have hs0 := hs.alloc (.cells #[.int .i64 a, .int .i64 c] 41)
  clear hs
  go_enter Tryz.func27, Tryz.ntmps27
  go_wp2_with fail
  refine (HFD.out _ hs0 (tells_pget1 ⟨a, c⟩ _ _ hK)).mono ?_
  rintro e w1 ⟨rfl, hb1⟩
  have hB1 := since_step hB0 hb1
  have hB2 := since_alloc hB1 (.cells #[.int .i64 va, .int .i64 vc, .int .i64 vq] 50)
  go_wp2_with fail
  go_ret
  exact ⟨rfl, hB2⟩
theorem few17_any (A : Option Addr) (cap : Nat) (l : List Fw) (w : World) (hc : l.length ≤ cap) (hcm : cap ≤ maxLen) (hs : Sl w A (rc Fw.cells l)) :
    Calls Tryz.prog 17 #[.slice A l.length cap] w fun e w' => e = .returned (.slice A (l.take 20).length cap) ∧ Below w.heap.size w w' := by
  by_cases h : 20 < l.length
  · have hl : (l.take 20).length = 20 := by simp; omega
    rw [hl]
    have h40 : 20 ≤ cap := by omega
    cases A with
    | none => obtain ⟨b, o, e, _⟩ := hs.fw (k := 0) (by omega); cases e
    | some ad =>
      go_enter Tryz.func17, Tryz.ntmps17
      go_wp2
      go_ret
      exact ⟨rfl, Below.refl _ _⟩
  · have hl : (l.take 20).length = l.length := by simp; omega
    rw [hl]
    go_enter Tryz.func17, Tryz.ntmps17
    go_wp2
    go_ret
    exact ⟨rfl, Below.refl _ _⟩
end
section
theorem hahead_any (x y : Po) (w : World) : Calls Tryz.prog 50 #[x.val, y.val] w fun e w' => e = .returned (.bool (ahHd x y)) ∧ Below w.heap.size w w' := by
  obtain ⟨ua, uc, ut, uL, uC⟩ := x
  obtain ⟨va, vc, vt, vL, vC⟩ := y
  unfold Po.val ahHd
  simp only
  have hB := since_alloc (since_alloc (Below.refl _ w) (.cells #[.int .i64 ua, .int .i64 uc, .slice ut uL uC] 95)) (.cells #[.int .i64 va, .int .i64 vc, .slice vt vL vC] 95)
  go_enter Tryz.func50, Tryz.ntmps50
  go_wp2_with fail
  refine (aless_any ua uc va vc _).mono ?_
  rintro e w1 ⟨rfl, hb⟩
  have hB1 := since_step hB hb
  go_wp2_with fail
  go_ret
  exact ⟨rfl, hB1⟩
theorem ent_hahead : Ent Tryz.prog 50 := Ent.of (by kernel_rfl)
theorem tells_hahead (B : Nat) (w : World) : Po.Tells2 50 #[] ahHd B w := fun a b W _ => hahead_any a b W
theorem hof1_any (x : Po) (a c : Int) (b : Nat) (w : World) (hb : Bk w b #[.int .i64 a, .int .i64 c]) :
    Calls Tryz.prog 126 #[x.val, .pointer (some ⟨b, 0, none⟩)] w fun e w' => e = .returned (.bool (unHd a c x)) ∧ Below w.heap.size w w' := by
  have hlt := hb.1
  have q0 := hb.2 0
  have q1 := hb.2 1
  have hB := since_alloc (Below.refl _ w) (.cells x.cells.toArray 95)
  obtain ⟨va, vc, vt, vL, vC⟩ := x
  unfold Po.val unHd
  unfold Po.cells at hB
  simp at q0 q1
  clear hb
  by_cases h1 : va = a
  · subst h1
    by_cases h2 : vc = c
    · subst h2
      go_enter Tryz.func126, Tryz.ntmps126
      go_wp2_with fail
      go_ret
      exact ⟨retB (by simp), hB⟩
    · have h2b : (vc == c) = false := by simpa using h2
      go_enter Tryz.func126, Tryz.ntmps126
      go_wp2_with fail
      go_ret
      exact ⟨retB (by simp [h2]), hB⟩
  · have h1b : (va == a) = false := by simpa using h1
    go_enter Tryz.func126, Tryz.ntmps126
    go_wp2_with fail
    go_ret
    exact ⟨retB (by simp [h1]), hB⟩
theorem ent_hof1 : Ent Tryz.prog 126 := Ent.of (by kernel_rfl)
theorem tells_hof1 (a c : Int) (b B : Nat) (w : World) (h : Bk w b #[.int .i64 a, .int .i64 c]) (hBw : B = w.heap.size) : Po.Tells 126 #[.pointer (some ⟨b, 0, none⟩)] (unHd a c) B w := by
  subst hBw
  exact fun g W hW => hof1_any g a c b W (h.below hW)
theorem hof_any (a c : Int) (w : World) :
    Calls Tryz.prog 113 #[.agg #[.int .i64 a, .int .i64 c]] w fun e w' => (∃ b, e = .returned (.func (.func 126) #[] #[.pointer (some ⟨b, 0, none⟩)]) ∧ Bk w' b #[.int .i64 a, .int .i64 c]) ∧ Below w.heap.size w w' := by
  have hB := since_alloc (Below.refl _ w) (.cells #[.int .i64 a, .int .i64 c] 41)
  have hV := Bk.new w #[.int .i64 a, .int .i64 c] 41
  go_enter Tryz.func113, Tryz.ntmps113
  go_wp2_with fail
  go_ret
  exact ⟨⟨_, rfl, hV⟩, hB⟩
theorem his_any (A : Option Addr) (cap : Nat) (l : List Po) (cs : List Pc) (w : World) (hl : l.length ≤ 900000) (hcl : ∀ g ∈ cs, g.L.length ≤ 900000) (hs : Sl w A (rc Po.cells l)) (ht : PoTab w l cs) :
    Calls Tryz.prog 21 #[.slice A l.length cap] w fun e w' => e = .returned (.bool (isH cs)) ∧ Below w.heap.size w w' := by
  have HLC := Lib.hid ht.1
  go_enter Tryz.func21, Tryz.ntmps21
  go_wp2_with fail
  go_loopw [7] (fun i wr => ∃ k : Nat, k ≤ l.length ∧ i = .int .i64 k ∧ (∀ j, (hj : j < cs.length) → j < k → okH cs[j] = true) ∧ Below w.heap.size w wr) (fun i _ => l.length - (intOf i).toNat)
  case atStart => exact ⟨0, by omega, rfl, fun j hj h => absurd h (by omega), Below.refl _ _⟩
  case round =>
    obtain ⟨k, hk, rfl, hno, hB⟩ := hrel
    by_cases hlt : k < l.length
    · have hlc : k < cs.length := HLC.out ▸ hlt
      obtain ⟨b, o, rfl, hbw, hg⟩ := (hs.below hB).po hlt
      have hI := (ht.below hB).2 k hlt hlc
      have hm := hcl _ (List.getElem_mem hlc)
      have hlk : (k : Int) < (l.length : Int) := by omega
      have hA := since_alloc hB (.cells l[k].cells.toArray 95)
      have HNX : Hid (okH cs[k] = true → ∀ j, (hj : j < cs.length) → j < k + 1 → okH cs[j] = true) := Lib.hid (fun h j hj hjk => by
        rcases Nat.lt_or_ge j k with h' | h'
        · exact hno j hj h'
        · obtain rfl : j = k := by omega
          exact h)
      have HBD : Hid (okH cs[k] = false → isH cs = false) := Lib.hid (fun h => isH_bad hlc h)
      clear hno
      generalize l[k] = v at *
      generalize cs[k] = d at *
      obtain ⟨va, vc, vt, vL, vC⟩ := v
      obtain ⟨da, dc, dL⟩ := d
      obtain ⟨i0, i1, i2, i3⟩ := hI
      simp only at i0 i1 i2 i3 hm
      subst i0; subst i1; subst i2
      obtain ⟨g0, g1, g2⟩ := hg
      unfold Po.cells at hA
      simp only at g0 g1 g2 hA HNX HBD
      have hsl := i3.alloc (.cells #[.int .i64 va, .int .i64 vc, .slice vt dL.length vC] 95)
      clear i3
      by_cases hq : dL.length = 0
      · have HR := Lib.hid (HBD.out (okH_zero hq))
        have hqb : (((dL.length : Nat) : Int) == 0) = true := by simpa using hq
        clear HBD HNX hq hsl
        go_wp2_with fail
        go_ret
        exact ⟨retB HR.out.symm, hA⟩
      · have hqb : (((dL.length : Nat) : Int) == 0) = false := by simpa using hq
        have HOK := Lib.hid (okH_some (x := ⟨va, vc, dL⟩) hq)
        simp only at HOK
        have HIS := Lib.hid (vis_any vt vC dL _ (by omega) hsl)
        clear hsl hq
        cases hi : isG dL with
        | false =>
          have HR := Lib.hid (HBD.out (HOK.out.trans hi))
          clear HBD HNX HOK
          rw [hi] at HIS
          go_wp2_with fail
          refine HIS.out.mono ?_
          rintro e u1 ⟨rfl, hb1⟩
          have hB1 := since_step hA hb1
          go_wp2_with fail
          go_ret
          exact ⟨retB HR.out.symm, hB1⟩
        | true =>
          have HN := Lib.hid (HNX.out (HOK.out.trans hi))
          clear HBD HNX HOK
          rw [hi] at HIS
          go_wp2_with fail
          refine HIS.out.mono ?_
          rintro e u1 ⟨rfl, hb1⟩
          have hB1 := since_step hA hb1
          go_wp2_with fail
          go_roundw
          case rel => exact ⟨k + 1, by omega, by go_num, HN.out, hB1⟩
          case measure => simp [intOf]; omega
    · obtain rfl : k = l.length := by omega
      have HR := Lib.hid ((isH_end fun j hj => hno j hj (HLC.out ▸ hj)).trans (PoTab.rising ah_is ht).symm)
      have hs1 := hs.below hB
      clear hno
      go_wp2_with fail
      refine (rising_po A cap l 50 #[] ahHd _ (by omega) hs1 ent_hahead (tells_hahead _ _)).mono ?_
      rintro e w1 ⟨rfl, hb1⟩
      have hB1 := since_step hB hb1
      go_wp2_with fail
      go_ret
      exact ⟨retB HR.out.symm, hB1⟩
theorem pick_po {w : World} {l : List Po} {cs : List Pc} (ht : PoTab w l cs) (a c : Int) : ∃ va vc vt vC, pickL (unHd a c) Po.zero l = ⟨va, vc, vt, (lotsH cs a c).length, vC⟩ ∧ Sl w vt (rc Lg.cells (lotsH cs a c)) := by
  unfold pickL lotsH
  rcases PoTab.find (fun g d h => un_is a c g d h) ht with ⟨h1, h2⟩ | ⟨g, d, h1, h2, h3⟩
  · rw [h1, h2]
    exact ⟨0, 0, none, 0, rfl, Sl.nil⟩
  · rw [h1, h2]
    obtain ⟨va, vc, vt, vL, vC⟩ := g
    have h4 := h3.len
    simp only at h4
    subst h4
    exact ⟨va, vc, vt, vC, rfl, h3.sl⟩
theorem hlots_any (A : Option Addr) (cap : Nat) (l : List Po) (cs : List Pc) (a c : Int) (w : World) (hl : l.length ≤ 900000) (hcl : ∀ g ∈ cs, g.L.length ≤ 900000) (hs : Sl w A (rc Po.cells l)) (ht : PoTab w l cs) :
    Calls Tryz.prog 96 #[.slice A l.length cap, .agg #[.int .i64 a, .int .i64 c]] w fun e w' => (∃ A' c', e = .returned (.slice A' (lotsH cs a c).length c') ∧ w'.ownsRow w.heap.size 151 2 (.slice A' (lotsH cs a c).length c') (lotsH cs a c).length (rc Lg.cells (lotsH cs a c))) ∧ Below w.heap.size w w' := by
  have hlen := lotsH_len hcl a c
  obtain ⟨va, vc, vt, vC, hv, hsl⟩ := pick_po ht a c
  generalize lotsH cs a c = L at *
  have HFD := Lib.hid (fun V b h1 h2 => (find_po A cap l 126 #[.pointer (some ⟨b, 0, none⟩)] (unHd a c) V (by omega) h1 ent_hof1 h2))
  rw [hv] at HFD
  unfold Po.val at HFD
  simp only at HFD
  clear hv
  have hB0 := since_alloc (Below.refl _ w) (.cells #[.int .i64 a, .int .i64 c] 41)
  have hs0 := hs.alloc (.cells #[.int .i64 a, .int .i64 c] 41)
  have hsl := hsl.alloc (.cells #[.int .i64 a, .int .i64 c] 41)
  have hws := hB0.size
  clear hs ht
  go_enter Tryz.func96, Tryz.ntmps96
  go_wp2_with fail
  refine (hof_any a c _).mono ?_
  rintro e w1 ⟨⟨b, rfl, hK⟩, hb⟩
  have hB1 := since_step hB0 hb
  have hs0 := hs0.below hb
  have hsl := hsl.below hb
  clear hb hB0
  go_wp2_with fail
  refine (HFD.out _ b hs0 (tells_hof1 a c b _ _ hK rfl)).mono ?_
  rintro e w2 ⟨rfl, hb⟩
  have hB2 := since_step hB1 hb
  have hsl := (hsl.below hb).alloc (.cells #[.int .i64 va, .int .i64 vc, .slice vt L.length vC] 95)
  have hB3 := since_alloc hB2 (.cells #[.int .i64 va, .int .i64 vc, .slice vt L.length vC] 95)
  clear hb hs0 hK HFD hB1 hB2
  go_wp2_with fail
  refine (clone_lg vt vC L _ (by omega) hsl).mono ?_
  rintro e w3 ⟨⟨A', c', rfl, ho⟩, hb⟩
  have hB4 := since_step hB3 hb
  have ho := own_lower ho hB3.size
  go_wp2_with fail
  go_ret
  exact ⟨⟨A', c', rfl, ho⟩, hB4⟩
end
section
theorem rd_ltrowH {w : World} {r : List Value} (h : Rd w (.cat (.int .i64) (.cat (.int .i64) .nil)) r) : ∃ g : Lg, r = g.cells ∧ In64 g.qty := by
  obtain ⟨p, q, rfl, ⟨a, rfl, _⟩, ⟨p2, q2, rfl, ⟨b, rfl, hb⟩, rfl⟩⟩ := h
  exact ⟨⟨a, b⟩, rfl, bd_i64 hb⟩
def InH (w : World) (g : Po) : Prop := ∃ L : List Lg, g.lgL = L.length ∧ L.length ≤ g.lgC ∧ g.lgC ≤ maxLen ∧ Sl w g.lg (rc Lg.cells L) ∧ ∀ y ∈ L, In64 y.qty
theorem rd_hold {w : World} {r : List Value} (h : Rd w (.cat (.cat (.int .i64) (.cat (.int .i64) .nil)) (.cat (.sl (.cat (.int .i64) (.cat (.int .i64) .nil))) .nil)) r) : ∃ g : Po, r = g.cells ∧ InH w g := by
  obtain ⟨p, q, rfl, ⟨p1, q1, rfl, ⟨a, rfl, _⟩, ⟨p2, q2, rfl, ⟨c, rfl, _⟩, rfl⟩⟩, ⟨p3, q3, rfl, h4, rfl⟩⟩ := h
  obtain ⟨A, n, k, rows, rfl, h1, h2, h3, h5, h6⟩ := _root_.id h4
  obtain ⟨L, rfl, _, _, hs, hq⟩ := rd_rowsP (f := Lg.cells) (fun r => rd_ltrowH) h4
  exact ⟨⟨a, c, A, L.length, k⟩, rfl, L, rfl, h1, h2, hs, hq⟩
def GoodH (cs : List Pc) : Prop := (∀ g ∈ cs, g.L.length ≤ 12) ∧ ∀ g ∈ cs, ∀ y ∈ g.L, In64 y.qty
def FewH (w' : World) (e : Ending) : Prop :=
  ∃ (R : List Po) (cs : List Pc) (A' : Option Addr) (c' : Nat), e = .returned (.slice A' R.length c') ∧ Sl w' A' (rc Po.cells R) ∧ PoTab w' R cs ∧ CapH A' R.length c' ∧ R.length ≤ 12 ∧ GoodH cs
end
section
theorem legs_qty : ∀ (i : Int) (l : List Int), ∀ x ∈ legsF i l, x.qty ∈ l
  | _, [], x, h => by simp [legsF] at h
  | i, q :: r, x, h => by
    unfold legsF at h
    rcases List.mem_append.1 h with h | h
    · split at h
      · cases h
      · rw [List.mem_singleton.1 h]; exact List.mem_cons_self
    · exact List.mem_cons_of_mem _ (legs_qty (i + 1) r x h)
theorem ofR_in (l : List Int) : ∀ x ∈ (ofR l).2, In64 x.qty := by
  unfold ofR
  split
  · rename_i h
    intro x hx
    exact h _ (legs_qty 1 l x hx)
  · intro x hx; cases hx
theorem addL_in (L : List (List Lg)) : ∀ x ∈ (addL L).2, In64 x.qty := by
  unfold addL addR
  split
  · exact ofR_in _
  · intro x hx; cases hx
theorem addL_len (L : List (List Lg)) : (addL L).2.length ≤ 8 := addR_len _
end
end Go.Proofs.YtmjndpkfhdoljaaGreat
