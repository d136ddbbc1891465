import Derived.Test.YtahdmomadbbhoaaGreatDk20
import Derived.Test.YtahdmomadbbhoaaGreatDk24
import Derived.Test.YtahdmomadbbhoaaGreatDk27
section
namespace Go.Proofs.YtahdmomadbbhoaaGreat
open Go.ChangeShapes Go.WideShapes Go.ChangeAt Go.RowKit
set_option linter.unusedVariables false
set_option linter.unusedSimpArgs false

def ahH (x y : Pc) : Bool := keyLt x.ac x.cl y.ac y.cl
theorem ordH : Ord ahH := ord_key Pc.ac Pc.cl
theorem ahH_iff (x y : Pc) : ahH x y = true ↔ x.ac < y.ac ∨ x.ac = y.ac ∧ x.cl < y.cl := keyLt_iff _ _ _ _
def ahHd (x y : Po) : Bool := keyLt x.ac x.cl y.ac y.cl
def unH (a c : Int) (x : Pc) : Bool := x.ac == a && x.cl == c
def unHd (a c : Int) (x : Po) : Bool := x.ac == a && x.cl == c
theorem unH_iff (a c : Int) (x : Pc) : unH a c x = true ↔ x.ac = a ∧ x.cl = c := by simp [unH]
theorem unH_no (a c : Int) (x : Pc) : unH a c x = false ↔ ¬ (x.ac = a ∧ x.cl = c) := by rw [← unH_iff]; simp
theorem ah_is {w : World} (g : Po) (c : Pc) (g' : Po) (c' : Pc) (h : PoIs w g c) (h' : PoIs w g' c') : ahHd g g' = ahH c c' := by
  unfold ahHd ahH; rw [h.ac, h.cl, h'.ac, h'.cl]
theorem un_is {w : World} (a k : Int) (g : Po) (c : Pc) (h : PoIs w g c) : unHd a k g = unH a k c := by
  unfold unHd unH; rw [h.ac, h.cl]
def okH (x : Pc) : Bool := !(x.L.length == 0) && isG x.L
def isH (cs : List Pc) : Bool := cs.all okH && risingL ahH cs
def lotsH (cs : List Pc) (a c : Int) : List Lg := ((cs.find? (unH a c)).map Pc.L).getD []
def sumsH (cs : List Pc) (t : Int) : List Int := cs.map fun g => getG g.L t
def withH (cs : List Pc) (a c : Int) (L : List Lg) : List Pc := if L = [] then cs.filter (fun g => !unH a c g) else putR ahH cs ⟨a, c, L⟩
def chgHR (how : List Lg → Int × List Lg) (cs : List Pc) (a c : Int) : Int × List Pc :=
  if isH cs = false then (3, []) else if (how (lotsH cs a c)).1 ≠ 0 then ((how (lotsH cs a c)).1, []) else (0, withH cs a c (how (lotsH cs a c)).2)
def CapH (A : Option Addr) (n cap : Nat) : Prop := (A = none ∧ n = 0 ∧ cap = 0) ∨ (∃ b, A = some ⟨b, 0, none⟩ ∧ n ≤ cap ∧ cap ≤ maxLen)
theorem CapH.of_own {w : World} {B e s n c : Nat} {A : Option Addr} {xs : List Value} (h : w.ownsRow B e s (.slice A n c) n xs) : CapH A n c := by
  rcases h.2 with ⟨hv, h0⟩ | ⟨g, cap, cur, hv, hg, hh, hnc, hcm, _⟩
  · injection hv with e1 e2 e3; exact .inl ⟨e1, h0, e3⟩
  · injection hv with e1 e2 e3; subst e3; exact .inr ⟨g, e1, hnc, hcm⟩
def HRes (w' : World) (e : Ending) (R : Int × List Pc) : Prop :=
  ∃ (l : List Po) (A' : Option Addr) (c' : Nat), e = .returned (.tuple #[.slice A' l.length c', .int .i64 R.1]) ∧ Sl w' A' (rc Po.cells l) ∧ PoTab w' l R.2 ∧ CapH A' l.length c'
theorem HRes.nil (w' : World) (n : Int) : HRes w' (.returned (.tuple #[.slice none 0 0, .int .i64 n])) (n, []) := ⟨[], none, 0, rfl, Sl.nil, PoTab.nil _, .inl ⟨rfl, rfl, rfl⟩⟩
abbrev SoH (cs : List Pc) : Prop := cs.Pairwise (fun a b => ahH a b = true)
theorem isH_iff (cs : List Pc) : isH cs = true ↔ (∀ x ∈ cs, okH x = true) ∧ SoH cs := by
  unfold isH
  rw [Bool.and_eq_true, List.all_eq_true, rising_pairwise ordH]
theorem isH_sorted {cs : List Pc} (h : isH cs = true) : SoH cs := ((isH_iff cs).1 h).2
theorem isH_bad {cs : List Pc} {k : Nat} (h : k < cs.length) (hb : okH cs[k] = false) : isH cs = false := by
  rw [← Bool.not_eq_true]
  intro hi
  have := ((isH_iff cs).1 hi).1 _ (List.getElem_mem h)
  rw [hb] at this; cases this
theorem isH_end {cs : List Pc} (h1 : ∀ j, (hj : j < cs.length) → okH cs[j] = true) : isH cs = risingL ahH cs := by
  have : cs.all okH = true := by
    rw [List.all_eq_true]
    intro x hx
    obtain ⟨j, hj, rfl⟩ := List.getElem_of_mem hx
    exact h1 j hj
  unfold isH
  rw [this, Bool.true_and]
theorem okH_iff (x : Pc) : okH x = true ↔ x.L ≠ [] ∧ isG x.L = true := by
  unfold okH
  simp
theorem okH_zero {x : Pc} (h : x.L.length = 0) : okH x = false := by
  unfold okH; rw [h]; rfl
theorem okH_some {x : Pc} (h : x.L.length ≠ 0) : okH x = isG x.L := by
  have : (x.L.length == 0) = false := by simpa using h
  unfold okH; rw [this]; rfl
theorem mem_putH {cs : List Pc} (h : SoH cs) (a c : Int) (L : List Lg) (y : Pc) : y ∈ putR ahH cs ⟨a, c, L⟩ ↔ y = ⟨a, c, L⟩ ∨ (y ∈ cs ∧ unH a c y = false) := by
  induction cs with
  | nil => simp [putR]
  | cons b r ih =>
    have ih := ih h.of_cons
    have hb : ∀ z ∈ r, ahH b z = true := (List.pairwise_cons.1 h).1
    unfold putR
    split
    · rename_i h1
      have hn : unH a c b = false := by rw [unH_no]; rw [ahH_iff] at h1; simp only at h1; omega
      rw [List.mem_cons, List.mem_cons, ih]
      constructor
      · rintro (rfl | h | h)
        · exact .inr ⟨.inl rfl, hn⟩
        · exact .inl h
        · exact .inr ⟨.inr h.1, h.2⟩
      · rintro (h | ⟨h | h, h2⟩)
        · exact .inr (.inl h)
        · exact .inl h
        · exact .inr (.inr ⟨h, h2⟩)
    · rename_i h1
      split
      · rename_i h2
        have hall : ∀ z ∈ b :: r, unH a c z = false := by
          intro z hz
          have hxz : ahH ⟨a, c, L⟩ z = true := by
            rcases List.mem_cons.1 hz with rfl | hz
            · exact h2
            · exact ordH.tr _ _ _ h2 (hb z hz)
          rw [unH_no]; rw [ahH_iff] at hxz; simp only at hxz; omega
        rw [List.mem_cons]
        exact ⟨fun h => h.imp id fun h => ⟨h, hall y h⟩, fun h => h.imp id fun h => h.1⟩
      · rename_i h2
        rw [ahH_iff] at h1 h2
        simp only at h1 h2
        have hbu : unH a c b = true := by rw [unH_iff]; omega
        have hr : ∀ z ∈ r, unH a c z = false := by
          intro z hz
          have := hb z hz
          rw [unH_no]; rw [unH_iff] at hbu; rw [ahH_iff] at this; omega
        rw [List.mem_cons, List.mem_cons]
        constructor
        · rintro (h | h)
          · exact .inl h
          · exact .inr ⟨.inr h, hr y h⟩
        · rintro (h | ⟨rfl | h, h3⟩)
          · exact .inl h
          · rw [hbu] at h3; cases h3
          · exact .inr h
theorem mem_with {cs : List Pc} (h : SoH cs) (a c : Int) (L : List Lg) (y : Pc) : y ∈ withH cs a c L ↔ (L ≠ [] ∧ y = ⟨a, c, L⟩) ∨ (y ∈ cs ∧ unH a c y = false) := by
  unfold withH
  split
  · rename_i hL
    rw [List.mem_filter]
    simp [hL]
  · rename_i hL
    rw [mem_putH h]
    simp [hL]
theorem with_sorted {cs : List Pc} (h : SoH cs) (a c : Int) (L : List Lg) : SoH (withH cs a c L) := by
  unfold withH
  split
  · exact h.filter _
  · exact pairwise_putR ordH _ _ h
theorem with_is {cs : List Pc} {L : List Lg} (h : isH cs = true) (hL : isG L = true) (a c : Int) : isH (withH cs a c L) = true := by
  obtain ⟨h1, h2⟩ := (isH_iff cs).1 h
  refine (isH_iff _).2 ⟨fun x hx => ?_, with_sorted h2 a c L⟩
  rcases (mem_with h2 a c L x).1 hx with ⟨h3, rfl⟩ | ⟨h3, _⟩
  · exact (okH_iff _).2 ⟨h3, hL⟩
  · exact h1 x h3
theorem key_one {cs : List Pc} (h : SoH cs) {x y : Pc} (hx : x ∈ cs) (hy : y ∈ cs) (h1 : x.ac = y.ac) (h2 : x.cl = y.cl) : x = y := by
  induction cs with
  | nil => cases hx
  | cons b r ih =>
    have hb : ∀ z ∈ r, ahH b z = true := (List.pairwise_cons.1 h).1
    rcases List.mem_cons.1 hx with e1 | hx' <;> rcases List.mem_cons.1 hy with e2 | hy'
    · rw [e1, e2]
    · have := hb y hy'; rw [ahH_iff] at this; subst e1; omega
    · have := hb x hx'; rw [ahH_iff] at this; subst e2; omega
    · exact ih h.of_cons hx' hy'
theorem lots_mem {cs : List Pc} (h : SoH cs) {x : Pc} (hx : x ∈ cs) : lotsH cs x.ac x.cl = x.L := by
  unfold lotsH
  cases hf : cs.find? (unH x.ac x.cl) with
  | none => have := List.find?_eq_none.1 hf x hx; rw [(unH_iff _ _ _).2 ⟨rfl, rfl⟩] at this; exact absurd rfl this
  | some y =>
    obtain ⟨h1, h2⟩ := (unH_iff _ _ _).1 (List.find?_some hf)
    rw [key_one h hx (List.mem_of_find?_eq_some hf) h1.symm h2.symm]; rfl
theorem lots_cases (cs : List Pc) (a c : Int) : (lotsH cs a c = [] ∧ ∀ x ∈ cs, unH a c x = false) ∨ (∃ x ∈ cs, x.ac = a ∧ x.cl = c ∧ lotsH cs a c = x.L) := by
  unfold lotsH
  cases hf : cs.find? (unH a c) with
  | none => exact .inl ⟨rfl, fun x hx => by simpa using List.find?_eq_none.1 hf x hx⟩
  | some y =>
    obtain ⟨h1, h2⟩ := (unH_iff _ _ _).1 (List.find?_some hf)
    exact .inr ⟨y, List.mem_of_find?_eq_some hf, h1, h2, rfl⟩
theorem isG_nil : isG [] = true := rfl
theorem lots_is {cs : List Pc} (h : isH cs = true) (a c : Int) : isG (lotsH cs a c) = true := by
  rcases lots_cases cs a c with ⟨e, _⟩ | ⟨x, hx, _, _, e⟩
  · rw [e]; exact isG_nil
  · rw [e]; exact ((okH_iff x).1 (((isH_iff cs).1 h).1 x hx)).2
theorem lots_in6 {cs : List Pc} (h : ∀ g ∈ cs, ∀ y ∈ g.L, In64 y.qty) (a c : Int) : ∀ y ∈ lotsH cs a c, In64 y.qty := by
  rcases lots_cases cs a c with ⟨e, _⟩ | ⟨x, hx, _, _, e⟩
  · rw [e]; intro y hy; cases hy
  · rw [e]; exact h x hx
theorem lotsH_len {cs : List Pc} {n : Nat} (h : ∀ g ∈ cs, g.L.length ≤ n) (a c : Int) : (lotsH cs a c).length ≤ n := by
  rcases lots_cases cs a c with ⟨e, _⟩ | ⟨x, hx, _, _, e⟩
  · rw [e]; simp
  · rw [e]; exact h x hx
theorem with_in6 {cs : List Pc} {L : List Lg} (hs : SoH cs) (h : ∀ g ∈ cs, ∀ y ∈ g.L, In64 y.qty) (hL : ∀ y ∈ L, In64 y.qty) (a c : Int) : ∀ g ∈ withH cs a c L, ∀ y ∈ g.L, In64 y.qty := by
  intro g hg
  rcases (mem_with hs a c L g).1 hg with ⟨_, rfl⟩ | ⟨h3, _⟩
  · exact hL
  · exact h g h3
theorem with_len {cs : List Pc} (a c : Int) (L : List Lg) : (withH cs a c L).length ≤ cs.length + 1 := by
  unfold withH
  split
  · exact Nat.le_succ_of_le (List.length_filter_le _ _)
  · exact length_putR _ _
theorem own_lower {w : World} {B B' e size n : Nat} {v : Value} {xs : List Value} (h : w.ownsRow B e size v n xs) (hb : B' ≤ B) : w.ownsRow B' e size v n xs := by
  obtain ⟨h0, h⟩ := h
  refine ⟨h0, ?_⟩
  rcases h with h | ⟨g, cap, cur, h1, h2, h⟩
  · exact .inl h
  · exact .inr ⟨g, cap, cur, h1, Nat.le_trans hb h2, h⟩
end Go.Proofs.YtahdmomadbbhoaaGreat
end
section
namespace Go.Proofs.YtahdmomadbbhoaaGreat
open Go.ChangeShapes Go.WideShapes Go.ChangeAt Go.RowKit
set_option linter.unusedVariables false
set_option linter.unusedSimpArgs false

set_option maxHeartbeats 1000000 in
set_option maxRecDepth 100000 in
theorem aless_any (ua uc va vc : Int) (w : World) : Calls Tryz.prog 104 #[.agg #[.int .i64 ua, .int .i64 uc], .agg #[.int .i64 va, .int .i64 vc]] w fun e w' => e = .returned (.bool (keyLt ua uc va vc)) ∧ Below w.heap.size w w' := by
  have hB := since_alloc (since_alloc (Below.refl _ w) (.cells #[.int .i64 ua, .int .i64 uc] 28)) (.cells #[.int .i64 va, .int .i64 vc] 28)
  by_cases h1 : ua < va
  · have HE : Hid (keyLt ua uc va vc = true) := Lib.hid (by simp [keyLt, h1])
    go_enter Tryz.func104, Tryz.ntmps104
    go_wp2_with fail
    go_ret
    exact ⟨retB HE.out.symm, hB⟩
  by_cases h2 : ua = va
  · subst h2
    have HE : Hid (keyLt ua uc ua vc = decide (uc < vc)) := Lib.hid (by simp [keyLt])
    go_enter Tryz.func104, Tryz.ntmps104
    go_wp2_with fail
    go_ret
    exact ⟨retB HE.out.symm, hB⟩
  · have HE : Hid (keyLt ua uc va vc = false) := Lib.hid (decide_eq_false (by omega))
    have h2b : (ua == va) = false := by simpa using h2
    clear h2
    go_enter Tryz.func104, Tryz.ntmps104
    go_wp2_with fail
    go_ret
    exact ⟨retB HE.out.symm, hB⟩
set_option maxHeartbeats 1000000 in
set_option maxRecDepth 100000 in
theorem pahead_any (x y : Fw) (w : World) : Calls Tryz.prog 76 #[x.val, y.val] w fun e w' => e = .returned (.bool (ahF x y)) ∧ Below w.heap.size w w' := by
  obtain ⟨ua, uc, uq⟩ := x
  obtain ⟨va, vc, vq⟩ := y
  unfold Fw.val ahF
  simp only
  have hB := since_alloc (since_alloc (Below.refl _ w) (.cells #[.int .i64 ua, .int .i64 uc, .int .i64 uq] 86)) (.cells #[.int .i64 va, .int .i64 vc, .int .i64 vq] 86)
  go_enter Tryz.func76, Tryz.ntmps76
  go_wp2_with fail
  refine (aless_any ua uc va vc _).mono ?_
  rintro e w1 ⟨rfl, hb⟩
  have hB1 := since_step hB hb
  go_wp2_with fail
  go_ret
  exact ⟨rfl, hB1⟩
theorem ent_pahead : Ent Tryz.prog 76 := Ent.of (by kernel_rfl)
theorem tells_pahead (B : Nat) (w : World) : Fw.Tells2 76 #[] ahF B w := fun a b W _ => pahead_any a b W
theorem isF_bad {l : List Fw} {k : Nat} (h : k < l.length) (hb : l[k].amt = 0) : isF l = false := by
  rw [← Bool.not_eq_true]
  intro hi
  exact isF_amt hi _ (List.getElem_mem h) hb
theorem isF_end {l : List Fw} (h1 : ∀ j, (hj : j < l.length) → l[j].amt ≠ 0) : isF l = risingL ahF l := by
  have : l.all (fun x => x.amt != 0) = true := by
    rw [List.all_eq_true]
    intro x hx
    obtain ⟨j, hj, rfl⟩ := List.getElem_of_mem hx
    simpa using h1 j hj
  unfold isF
  rw [this, Bool.true_and]
set_option maxHeartbeats 4000000 in
set_option maxRecDepth 100000 in
theorem pis_any (A : Option Addr) (cap : Nat) (l : List Fw) (w : World) (hl : l.length ≤ 1000000) (hs : Sl w A (rc Fw.cells l)) :
    Calls Tryz.prog 41 #[.slice A l.length cap] w fun e w' => e = .returned (.bool (isF l)) ∧ Below w.heap.size w w' := by
  go_enter Tryz.func41, Tryz.ntmps41
  go_wp2_with fail
  go_loopw [7] (fun i wr => ∃ k : Nat, k ≤ l.length ∧ i = .int .i64 k ∧ (∀ j, (hj : j < l.length) → j < k → l[j].amt ≠ 0) ∧ Below w.heap.size w wr) (fun i _ => l.length - (intOf i).toNat)
  case atStart => exact ⟨0, by omega, rfl, fun j hj h => absurd h (by omega), Below.refl _ _⟩
  case round =>
    obtain ⟨k, hk, rfl, hno, hB⟩ := hrel
    by_cases hlt : k < l.length
    · obtain ⟨b, o, rfl, hbw, hg⟩ := (hs.below hB).fw hlt
      have hlk : (k : Int) < (l.length : Int) := by omega
      have hA := since_alloc hB (.cells l[k].cells.toArray 86)
      have HNX : Hid (l[k].amt ≠ 0 → ∀ j, (hj : j < l.length) → j < k + 1 → l[j].amt ≠ 0) := Lib.hid (fun h j hj hjk => by
        rcases Nat.lt_or_ge j k with h' | h'
        · exact hno j hj h'
        · obtain rfl : j = k := by omega
          exact h)
      have HBD : Hid (l[k].amt = 0 → isF l = false) := Lib.hid (fun h => isF_bad hlt h)
      clear hno
      generalize l[k] = v at *
      obtain ⟨va, vc, vq⟩ := v
      obtain ⟨g0, g1, g2⟩ := hg
      unfold Fw.cells at hA
      simp only at g0 g1 g2 hA HNX HBD
      by_cases hq : vq = 0
      · have HR := Lib.hid (HBD.out hq)
        have hqb : (vq == 0) = true := by simpa using hq
        clear HBD HNX hq
        go_wp2_with fail
        go_ret
        exact ⟨retB HR.out.symm, hA⟩
      · have HN := Lib.hid (HNX.out hq)
        have hqb : (vq == 0) = false := by simpa using hq
        clear HBD HNX hq
        go_wp2_with fail
        go_roundw
        case rel => exact ⟨k + 1, by omega, by go_num, HN.out, hA⟩
        case measure => simp [intOf]; omega
    · obtain rfl : k = l.length := by omega
      have HR := Lib.hid (isF_end fun j hj => hno j hj hj)
      have hs1 := hs.below hB
      clear hno
      go_wp2_with fail
      refine (rising_fw A cap l 76 #[] ahF _ hl hs1 ent_pahead (tells_pahead _ _)).mono ?_
      rintro e w1 ⟨rfl, hb1⟩
      have hB1 := since_step hB hb1
      go_wp2_with fail
      go_ret
      exact ⟨retB HR.out.symm, hB1⟩
set_option maxHeartbeats 1000000 in
set_option maxRecDepth 100000 in
theorem pget1_any (x : Fw) (z : Un) (b : Nat) (w : World) (hb : Bk w b z.cells.toArray) :
    Calls Tryz.prog 54 #[x.val, .pointer (some ⟨b, 0, none⟩)] w fun e w' => e = .returned (.bool (unF z.ac z.cl x)) ∧ Below w.heap.size w w' := by
  have hlt := hb.1
  have q0 := hb.2 0
  have q1 := hb.2 1
  have hB := since_alloc (Below.refl _ w) (.cells x.cells.toArray 86)
  obtain ⟨va, vc, vq⟩ := x
  obtain ⟨za, zc⟩ := z
  unfold Fw.val unF
  unfold Fw.cells at hB
  simp only [Un.cells] at q0 q1 hB ⊢
  simp at q0 q1
  clear hb
  by_cases h1 : va = za
  · subst h1
    by_cases h2 : vc = zc
    · subst h2
      go_enter Tryz.func54, Tryz.ntmps54
      go_wp2_with fail
      go_ret
      exact ⟨retB (by simp), hB⟩
    · have h2b : (vc == zc) = false := by simpa using h2
      go_enter Tryz.func54, Tryz.ntmps54
      go_wp2_with fail
      go_ret
      exact ⟨retB (by simp [h2]), hB⟩
  · have h1b : (va == za) = false := by simpa using h1
    go_enter Tryz.func54, Tryz.ntmps54
    go_wp2_with fail
    go_ret
    exact ⟨retB (by simp [h1]), hB⟩
theorem ent_pget1 : Ent Tryz.prog 54 := Ent.of (by kernel_rfl)
theorem tells_pget1 (z : Un) (b : Nat) (w : World) (h : Bk w b z.cells.toArray) : Fw.Tells 54 #[.pointer (some ⟨b, 0, none⟩)] (unF z.ac z.cl) w.heap.size w :=
  fun g W hW => pget1_any g z b W (h.below hW)
set_option maxHeartbeats 1000000 in
set_option maxRecDepth 100000 in
theorem pget_any (A : Option Addr) (cap : Nat) (l : List Fw) (a c : Int) (w : World) (hl : l.length ≤ 1000000) (hs : Sl w A (rc Fw.cells l)) :
    Calls Tryz.prog 23 #[.slice A l.length cap, .agg #[.int .i64 a, .int .i64 c]] w fun e w' => e = .returned (.int .i64 (getF l a c)) ∧ Below w.heap.size w w' := by
  obtain ⟨v, hv⟩ : ∃ v, pickL (unF a c) Fw.zero l = v := ⟨_, rfl⟩
  have HFD := Lib.hid (fun V h1 h2 => (find_fw A cap l 54 #[.pointer (some ⟨w.heap.size, 0, none⟩)] (unF a c) V hl h1 ent_pget1 h2))
  rw [show getF l a c = v.amt from by unfold getF; rw [hv]]
  rw [hv] at HFD
  obtain ⟨va, vc, vq⟩ := v
  unfold Fw.val at HFD
  simp only at HFD ⊢
  clear hv
  have hB0 := since_alloc (Below.refl _ w) (.cells #[.int .i64 a, .int .i64 c] 28)
  have hK := Bk.new w #[.int .i64 a, .int .i64 c] 28
  have hs0 := hs.alloc (.cells #[.int .i64 a, .int .i64 c] 28)
  clear hs
  go_enter Tryz.func23, Tryz.ntmps23
  go_wp2_with fail
  refine (HFD.out _ hs0 (tells_pget1 ⟨a, c⟩ _ _ hK)).mono ?_
  rintro e w1 ⟨rfl, hb1⟩
  have hB1 := since_step hB0 hb1
  have hB2 := since_alloc hB1 (.cells #[.int .i64 va, .int .i64 vc, .int .i64 vq] 86)
  go_wp2_with fail
  go_ret
  exact ⟨rfl, hB2⟩
theorem few17_any (A : Option Addr) (cap : Nat) (l : List Fw) (w : World) (hc : l.length ≤ cap) (hcm : cap ≤ maxLen) (hs : Sl w A (rc Fw.cells l)) :
    Calls Tryz.prog 29 #[.slice A l.length cap] w fun e w' => e = .returned (.slice A (l.take 20).length cap) ∧ Below w.heap.size w w' := by
  by_cases h : 20 < l.length
  · have hl : (l.take 20).length = 20 := by simp; omega
    rw [hl]
    have h40 : 20 ≤ cap := by omega
    cases A with
    | none => obtain ⟨b, o, e, _⟩ := hs.fw (k := 0) (by omega); cases e
    | some ad =>
      go_enter Tryz.func29, Tryz.ntmps29
      go_wp2
      go_ret
      exact ⟨rfl, Below.refl _ _⟩
  · have hl : (l.take 20).length = l.length := by simp; omega
    rw [hl]
    go_enter Tryz.func29, Tryz.ntmps29
    go_wp2
    go_ret
    exact ⟨rfl, Below.refl _ _⟩
end Go.Proofs.YtahdmomadbbhoaaGreat
end
