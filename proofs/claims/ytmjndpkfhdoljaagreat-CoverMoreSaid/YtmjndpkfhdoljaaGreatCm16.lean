import Derived.Test.YtmjndpkfhdoljaaGreatCm14
import Derived.Test.YtmjndpkfhdoljaaGreatCm15
import Derived.Test.YtmjndpkfhdoljaaGreatCm06
import Derived.Deep.RegionLaw
import Derived.Lib.SliceRun
import Derived.Test.YtmjndpkfhdoljaaGreatCm01
import Derived.Deep.DeepCutAuto
import Derived.Deep.RegionHeld3
set_option maxHeartbeats 16000000
set_option maxRecDepth 100000
set_option linter.unusedVariables false
set_option linter.unusedSimpArgs false
namespace Go.Proofs.YtmjndpkfhdoljaaGreat
open Go.ChangeShapes Go.WideShapes Go.ChangeAt Go.RowKit
section
theorem hahead_any (x y : Po) (w : World) : Calls Tryz.prog 50 #[x.val, y.val] w fun e w' => e = .returned (.bool (ahHd x y)) ∧ Below w.heap.size w w' := by
  obtain ⟨ua, uc, ut, uL, uC⟩ := x
  obtain ⟨va, vc, vt, vL, vC⟩ := y
  unfold Po.val ahHd
  simp only
  have hB := since_alloc (since_alloc (Below.refl _ w) (.cells #[.int .i64 ua, .int .i64 uc, .slice ut uL uC] 95)) (.cells #[.int .i64 va, .int .i64 vc, .slice vt vL vC] 95)
  go_enter Tryz.func50, Tryz.ntmps50
  go_wp2_with fail
  refine (aless_any ua uc va vc _).mono ?_
  rintro e w1 ⟨rfl, hb⟩
  have hB1 := since_step hB hb
  go_wp2_with fail
  go_ret
  exact ⟨rfl, hB1⟩
theorem ent_hahead : Ent Tryz.prog 50 := Ent.of (by kernel_rfl)
theorem tells_hahead (B : Nat) (w : World) : Po.Tells2 50 #[] ahHd B w := fun a b W _ => hahead_any a b W
theorem hof1_any (x : Po) (a c : Int) (b : Nat) (w : World) (hb : Bk w b #[.int .i64 a, .int .i64 c]) :
    Calls Tryz.prog 126 #[x.val, .pointer (some ⟨b, 0, none⟩)] w fun e w' => e = .returned (.bool (unHd a c x)) ∧ Below w.heap.size w w' := by
  have hlt := hb.1
  have q0 := hb.2 0
  have q1 := hb.2 1
  have hB := since_alloc (Below.refl _ w) (.cells x.cells.toArray 95)
  obtain ⟨va, vc, vt, vL, vC⟩ := x
  unfold Po.val unHd
  unfold Po.cells at hB
  simp at q0 q1
  clear hb
  by_cases h1 : va = a
  · subst h1
    by_cases h2 : vc = c
    · subst h2
      go_enter Tryz.func126, Tryz.ntmps126
      go_wp2_with fail
      go_ret
      exact ⟨retB (by simp), hB⟩
    · have h2b : (vc == c) = false := by simpa using h2
      go_enter Tryz.func126, Tryz.ntmps126
      go_wp2_with fail
      go_ret
      exact ⟨retB (by simp [h2]), hB⟩
  · have h1b : (va == a) = false := by simpa using h1
    go_enter Tryz.func126, Tryz.ntmps126
    go_wp2_with fail
    go_ret
    exact ⟨retB (by simp [h1]), hB⟩
theorem ent_hof1 : Ent Tryz.prog 126 := Ent.of (by kernel_rfl)
theorem tells_hof1 (a c : Int) (b B : Nat) (w : World) (h : Bk w b #[.int .i64 a, .int .i64 c]) (hBw : B = w.heap.size) : Po.Tells 126 #[.pointer (some ⟨b, 0, none⟩)] (unHd a c) B w := by
  subst hBw
  exact fun g W hW => hof1_any g a c b W (h.below hW)
theorem hof_any (a c : Int) (w : World) :
    Calls Tryz.prog 113 #[.agg #[.int .i64 a, .int .i64 c]] w fun e w' => (∃ b, e = .returned (.func (.func 126) #[] #[.pointer (some ⟨b, 0, none⟩)]) ∧ Bk w' b #[.int .i64 a, .int .i64 c]) ∧ Below w.heap.size w w' := by
  have hB := since_alloc (Below.refl _ w) (.cells #[.int .i64 a, .int .i64 c] 41)
  have hV := Bk.new w #[.int .i64 a, .int .i64 c] 41
  go_enter Tryz.func113, Tryz.ntmps113
  go_wp2_with fail
  go_ret
  exact ⟨⟨_, rfl, hV⟩, hB⟩
theorem his_any (A : Option Addr) (cap : Nat) (l : List Po) (cs : List Pc) (w : World) (hl : l.length ≤ 900000) (hcl : ∀ g ∈ cs, g.L.length ≤ 900000) (hs : Sl w A (rc Po.cells l)) (ht : PoTab w l cs) :
    Calls Tryz.prog 21 #[.slice A l.length cap] w fun e w' => e = .returned (.bool (isH cs)) ∧ Below w.heap.size w w' := by
  have HLC := Lib.hid ht.1
  go_enter Tryz.func21, Tryz.ntmps21
  go_wp2_with fail
  go_loopw [7] (fun i wr => ∃ k : Nat, k ≤ l.length ∧ i = .int .i64 k ∧ (∀ j, (hj : j < cs.length) → j < k → okH cs[j] = true) ∧ Below w.heap.size w wr) (fun i _ => l.length - (intOf i).toNat)
  case atStart => exact ⟨0, by omega, rfl, fun j hj h => absurd h (by omega), Below.refl _ _⟩
  case round =>
    obtain ⟨k, hk, rfl, hno, hB⟩ := hrel
    by_cases hlt : k < l.length
    · have hlc : k < cs.length := HLC.out ▸ hlt
      obtain ⟨b, o, rfl, hbw, hg⟩ := (hs.below hB).po hlt
      have hI := (ht.below hB).2 k hlt hlc
      have hm := hcl _ (List.getElem_mem hlc)
      have hlk : (k : Int) < (l.length : Int) := by omega
      have hA := since_alloc hB (.cells l[k].cells.toArray 95)
      have HNX : Hid (okH cs[k] = true → ∀ j, (hj : j < cs.length) → j < k + 1 → okH cs[j] = true) := Lib.hid (fun h j hj hjk => by
        rcases Nat.lt_or_ge j k with h' | h'
        · exact hno j hj h'
        · obtain rfl : j = k := by omega
          exact h)
      have HBD : Hid (okH cs[k] = false → isH cs = false) := Lib.hid (fun h => isH_bad hlc h)
      clear hno
      generalize l[k] = v at *
      generalize cs[k] = d at *
      obtain ⟨va, vc, vt, vL, vC⟩ := v
      obtain ⟨da, dc, dL⟩ := d
      obtain ⟨i0, i1, i2, i3⟩ := hI
      simp only at i0 i1 i2 i3 hm
      subst i0; subst i1; subst i2
      obtain ⟨g0, g1, g2⟩ := hg
      unfold Po.cells at hA
      simp only at g0 g1 g2 hA HNX HBD
      have hsl := i3.alloc (.cells #[.int .i64 va, .int .i64 vc, .slice vt dL.length vC] 95)
      clear i3
      by_cases hq : dL.length = 0
      · have HR := Lib.hid (HBD.out (okH_zero hq))
        have hqb : (((dL.length : Nat) : Int) == 0) = true := by simpa using hq
        clear HBD HNX hq hsl
        go_wp2_with fail
        go_ret
        exact ⟨retB HR.out.symm, hA⟩
      · have hqb : (((dL.length : Nat) : Int) == 0) = false := by simpa using hq
        have HOK := Lib.hid (okH_some (x := ⟨va, vc, dL⟩) hq)
        simp only at HOK
        have HIS := Lib.hid (vis_any vt vC dL _ (by omega) hsl)
        clear hsl hq
        cases hi : isG dL with
        | false =>
          have HR := Lib.hid (HBD.out (HOK.out.trans hi))
          clear HBD HNX HOK
          rw [hi] at HIS
          go_wp2_with fail
          refine HIS.out.mono ?_
          rintro e u1 ⟨rfl, hb1⟩
          have hB1 := since_step hA hb1
          go_wp2_with fail
          go_ret
          exact ⟨retB HR.out.symm, hB1⟩
        | true =>
          have HN := Lib.hid (HNX.out (HOK.out.trans hi))
          clear HBD HNX HOK
          rw [hi] at HIS
          go_wp2_with fail
          refine HIS.out.mono ?_
          rintro e u1 ⟨rfl, hb1⟩
          have hB1 := since_step hA hb1
          go_wp2_with fail
          go_roundw
          case rel => exact ⟨k + 1, by omega, by go_num, HN.out, hB1⟩
          case measure => simp [intOf]; omega
    · obtain rfl : k = l.length := by omega
      have HR := Lib.hid ((isH_end fun j hj => hno j hj (HLC.out ▸ hj)).trans (PoTab.rising ah_is ht).symm)
      have hs1 := hs.below hB
      clear hno
      go_wp2_with fail
      refine (rising_po A cap l 50 #[] ahHd _ (by omega) hs1 ent_hahead (tells_hahead _ _)).mono ?_
      rintro e w1 ⟨rfl, hb1⟩
      have hB1 := since_step hB hb1
      go_wp2_with fail
      go_ret
      exact ⟨retB HR.out.symm, hB1⟩
theorem pick_po {w : World} {l : List Po} {cs : List Pc} (ht : PoTab w l cs) (a c : Int) : ∃ va vc vt vC, pickL (unHd a c) Po.zero l = ⟨va, vc, vt, (lotsH cs a c).length, vC⟩ ∧ Sl w vt (rc Lg.cells (lotsH cs a c)) := by
  unfold pickL lotsH
  rcases PoTab.find (fun g d h => un_is a c g d h) ht with ⟨h1, h2⟩ | ⟨g, d, h1, h2, h3⟩
  · rw [h1, h2]
    exact ⟨0, 0, none, 0, rfl, Sl.nil⟩
  · rw [h1, h2]
    obtain ⟨va, vc, vt, vL, vC⟩ := g
    have h4 := h3.len
    simp only at h4
    subst h4
    exact ⟨va, vc, vt, vC, rfl, h3.sl⟩
theorem hlots_any (A : Option Addr) (cap : Nat) (l : List Po) (cs : List Pc) (a c : Int) (w : World) (hl : l.length ≤ 900000) (hcl : ∀ g ∈ cs, g.L.length ≤ 900000) (hs : Sl w A (rc Po.cells l)) (ht : PoTab w l cs) :
    Calls Tryz.prog 96 #[.slice A l.length cap, .agg #[.int .i64 a, .int .i64 c]] w fun e w' => (∃ A' c', e = .returned (.slice A' (lotsH cs a c).length c') ∧ w'.ownsRow w.heap.size 151 2 (.slice A' (lotsH cs a c).length c') (lotsH cs a c).length (rc Lg.cells (lotsH cs a c))) ∧ Below w.heap.size w w' := by
  have hlen := lotsH_len hcl a c
  obtain ⟨va, vc, vt, vC, hv, hsl⟩ := pick_po ht a c
  generalize lotsH cs a c = L at *
  have HFD := Lib.hid (fun V b h1 h2 => (find_po A cap l 126 #[.pointer (some ⟨b, 0, none⟩)] (unHd a c) V (by omega) h1 ent_hof1 h2))
  rw [hv] at HFD
  unfold Po.val at HFD
  simp only at HFD
  clear hv
  have hB0 := since_alloc (Below.refl _ w) (.cells #[.int .i64 a, .int .i64 c] 41)
  have hs0 := hs.alloc (.cells #[.int .i64 a, .int .i64 c] 41)
  have hsl := hsl.alloc (.cells #[.int .i64 a, .int .i64 c] 41)
  have hws := hB0.size
  clear hs ht
  go_enter Tryz.func96, Tryz.ntmps96
  go_wp2_with fail
  refine (hof_any a c _).mono ?_
  rintro e w1 ⟨⟨b, rfl, hK⟩, hb⟩
  have hB1 := since_step hB0 hb
  have hs0 := hs0.below hb
  have hsl := hsl.below hb
  clear hb hB0
  go_wp2_with fail
  refine (HFD.out _ b hs0 (tells_hof1 a c b _ _ hK rfl)).mono ?_
  rintro e w2 ⟨rfl, hb⟩
  have hB2 := since_step hB1 hb
  have hsl := (hsl.below hb).alloc (.cells #[.int .i64 va, .int .i64 vc, .slice vt L.length vC] 95)
  have hB3 := since_alloc hB2 (.cells #[.int .i64 va, .int .i64 vc, .slice vt L.length vC] 95)
  clear hb hs0 hK HFD hB1 hB2
  go_wp2_with fail
  refine (clone_lg vt vC L _ (by omega) hsl).mono ?_
  rintro e w3 ⟨⟨A', c', rfl, ho⟩, hb⟩
  have hB4 := since_step hB3 hb
  have ho := own_lower ho hB3.size
  go_wp2_with fail
  go_ret
  exact ⟨⟨A', c', rfl, ho⟩, hB4⟩
end
section
theorem lotsH_at {cs : List Pc} {k : Nat} {a c : Int} (hk : k < cs.length) (hno : ∀ j, (hj : j < cs.length) → j < k → unH a c cs[j] = false) (h : unH a c cs[k] = true) : lotsH cs a c = cs[k].L := by
  unfold lotsH; rw [find_some hk (fun j hj => hno j (by omega) hj) h]; rfl
theorem lotsH_none {cs : List Pc} {a c : Int} (hno : ∀ j, (hj : j < cs.length) → unH a c cs[j] = false) : lotsH cs a c = [] := by
  unfold lotsH; rw [find_none fun j hj => hno j hj]; rfl
end
section
theorem rd_ltrowH {w : World} {r : List Value} (h : Rd w (.cat (.int .i64) (.cat (.int .i64) .nil)) r) : ∃ g : Lg, r = g.cells ∧ In64 g.qty := by
  obtain ⟨p, q, rfl, ⟨a, rfl, _⟩, ⟨p2, q2, rfl, ⟨b, rfl, hb⟩, rfl⟩⟩ := h
  exact ⟨⟨a, b⟩, rfl, bd_i64 hb⟩
def InH (w : World) (g : Po) : Prop := ∃ L : List Lg, g.lgL = L.length ∧ L.length ≤ g.lgC ∧ g.lgC ≤ maxLen ∧ Sl w g.lg (rc Lg.cells L) ∧ ∀ y ∈ L, In64 y.qty
theorem rd_hold {w : World} {r : List Value} (h : Rd w (.cat (.cat (.int .i64) (.cat (.int .i64) .nil)) (.cat (.sl (.cat (.int .i64) (.cat (.int .i64) .nil))) .nil)) r) : ∃ g : Po, r = g.cells ∧ InH w g := by
  obtain ⟨p, q, rfl, ⟨p1, q1, rfl, ⟨a, rfl, _⟩, ⟨p2, q2, rfl, ⟨c, rfl, _⟩, rfl⟩⟩, ⟨p3, q3, rfl, h4, rfl⟩⟩ := h
  obtain ⟨A, n, k, rows, rfl, h1, h2, h3, h5, h6⟩ := _root_.id h4
  obtain ⟨L, rfl, _, _, hs, hq⟩ := rd_rowsP (f := Lg.cells) (fun r => rd_ltrowH) h4
  exact ⟨⟨a, c, A, L.length, k⟩, rfl, L, rfl, h1, h2, hs, hq⟩
def GoodH (cs : List Pc) : Prop := (∀ g ∈ cs, g.L.length ≤ 12) ∧ ∀ g ∈ cs, ∀ y ∈ g.L, In64 y.qty
end
section
theorem chgHR_form {how : List Lg → Int × List Lg} {cs : List Pc} {a c : Int} (h : isH cs = false) : chgHR how cs a c = (3, []) := if_pos h
theorem chgHR_err {how : List Lg → Int × List Lg} {cs : List Pc} {a c n : Int} {L : List Lg} (h : isH cs = true) (h2 : how (lotsH cs a c) = (n, L)) (h3 : n ≠ 0) : chgHR how cs a c = (n, []) := by
  unfold chgHR; rw [if_neg (by simp [h]), h2, if_pos h3]
theorem chgHR_ok {how : List Lg → Int × List Lg} {cs : List Pc} {a c : Int} {L : List Lg} (h : isH cs = true) (h2 : how (lotsH cs a c) = (0, L)) : chgHR how cs a c = (0, withH cs a c L) := by
  unfold chgHR; rw [if_neg (by simp [h]), h2, if_neg (by simp)]
end
section
theorem legs_qty : ∀ (i : Int) (l : List Int), ∀ x ∈ legsF i l, x.qty ∈ l
  | _, [], x, h => by simp [legsF] at h
  | i, q :: r, x, h => by
    unfold legsF at h
    rcases List.mem_append.1 h with h | h
    · split at h
      · cases h
      · rw [List.mem_singleton.1 h]; exact List.mem_cons_self
    · exact List.mem_cons_of_mem _ (legs_qty (i + 1) r x h)
theorem ofR_in (l : List Int) : ∀ x ∈ (ofR l).2, In64 x.qty := by
  unfold ofR
  split
  · rename_i h
    intro x hx
    exact h _ (legs_qty 1 l x hx)
  · intro x hx; cases hx
theorem addL_in (L : List (List Lg)) : ∀ x ∈ (addL L).2, In64 x.qty := by
  unfold addL addR
  split
  · exact ofR_in _
  · intro x hx; cases hx
theorem addL_len (L : List (List Lg)) : (addL L).2.length ≤ 8 := addR_len _
end
section
structure Iq where
  (id : Int) (mult : Int) (price : Int) (nxt : Int) (mv : Option Addr) (mvL mvC : Nat)
deriving DecidableEq
def Iq.cells (g : Iq) : List Value := [.int .i64 g.id, .int .i64 g.mult, .int .i64 g.price, .int .i64 g.nxt, .slice g.mv g.mvL g.mvC]
def Iq.val (g : Iq) : Value := .agg #[.int .i64 g.id, .int .i64 g.mult, .int .i64 g.price, .int .i64 g.nxt, .slice g.mv g.mvL g.mvC]
def Iq.zero : Iq := ⟨0, 0, 0, 0, none, 0, 0⟩
theorem Iq.len (g : Iq) : g.cells.length = 5 := rfl
theorem Iq.one (g : Iq) : ∀ u ∈ g.cells, u.oneCell' = true := by
  intro u hu
  simp only [Iq.cells, List.mem_cons, List.not_mem_nil, or_false] at hu
  rcases hu with h | h | h | h | h <;> subst h <;> rfl
def Iq.at (g : Iq) (w : World) (b o : Nat) : Prop :=
  w.cell? ⟨b, o, none⟩ = some (.int .i64 g.id) ∧ w.cell? ⟨b, o + 1, none⟩ = some (.int .i64 g.mult) ∧ w.cell? ⟨b, o + 2, none⟩ = some (.int .i64 g.price) ∧ w.cell? ⟨b, o + 3, none⟩ = some (.int .i64 g.nxt) ∧ w.cell? ⟨b, o + 4, none⟩ = some (.slice g.mv g.mvL g.mvC)
theorem Iq.at_of {w : World} {b o : Nat} {g : Iq} (h : ∀ j u, g.cells[j]? = some u → w.cell? ⟨b, o + j, none⟩ = some u) : g.at w b o :=
  ⟨h 0 _ rfl, h 1 _ rfl, h 2 _ rfl, h 3 _ rfl, h 4 _ rfl⟩
theorem Iq.at_keep {w w' : World} {b o : Nat} {g : Iq} (h : g.at w b o) (k : ∀ i, w'.cell? ⟨b, i, none⟩ = w.cell? ⟨b, i, none⟩) : g.at w' b o := by
  unfold Iq.at at *
  simp only [k]
  exact h
theorem Sl.iq {w : World} {A : Option Addr} {l : List Iq} (h : Sl w A (rc Iq.cells l)) {k : Nat} (hk : k < l.length) : ∃ b o, A = some ⟨b, o, none⟩ ∧ b < w.heap.size ∧ l[k].at w b (o + k * 5) := by
  obtain ⟨b, o, hA, hb, hc⟩ := Sl.elem (m := 5) Iq.len (by decide) h hk
  exact ⟨b, o, hA, hb, Iq.at_of hc⟩
theorem EIq : Elem Tryz.prog 23 92 5 56 := Elem.mk' (z := .agg #[.int .i64 0, .int .i64 0, .int .i64 0, .int .i64 0, .slice none 0 0]) (by kernel_rfl) (by kernel_rfl) (by decide) (by decide)
def Iq.Tells (F : Nat) (caps : Array Value) (p : Iq → Bool) (B : Nat) (w : World) : Prop :=
  ∀ (g : Iq) (W : World), Below B w W → Calls Tryz.prog F (#[g.val] ++ caps) W fun e w' => e = .returned (.bool (p g)) ∧ Below W.heap.size W w'
theorem Iq.Tells.below {F : Nat} {caps : Array Value} {p : Iq → Bool} {B : Nat} {w w1 : World} (h : Iq.Tells F caps p B w) (hb : Below B w w1) {C : Nat} (hC : B ≤ C) : Iq.Tells F caps p C w1 :=
  fun g W hW => h g W (hb.trans (hW.mono hC))
theorem index_iq (A : Option Addr) (cap : Nat) (l : List Iq) (F : Nat) (caps : Array Value) (p : Iq → Bool) (w : World) (hl : l.length ≤ 1000000) (hs : Sl w A (rc Iq.cells l)) (hF : Ent Tryz.prog F) (hp : Iq.Tells F caps p w.heap.size w) :
    Calls Tryz.prog 137 #[.slice A l.length cap, .func (.func F) #[] caps] w fun e w' => e = .returned (.int .i64 (atL p l)) ∧ Below w.heap.size w w' := by
  go_enter Tryz.func137, Tryz.ntmps137
  go_wp2
  go_loopw [8] (fun i wr => ∃ k : Nat, k ≤ l.length ∧ i = .int .i64 k ∧ (∀ j, (hj : j < l.length) → j < k → p l[j] = false) ∧ Below w.heap.size w wr) (fun i _ => l.length - (intOf i).toNat)
  case atStart => exact ⟨0, by omega, rfl, fun j hj h => absurd h (by omega), Below.refl _ _⟩
  case round =>
    obtain ⟨k, hk, rfl, hno, hB⟩ := hrel
    by_cases hlt2 : k < l.length
    · obtain ⟨b, o, rfl, hbw, hg⟩ := hs.iq hlt2
      have hg1 : l[k].at wr b (o + k * 5) := Iq.at_keep (w := w) hg fun i => hB.cell (p := ⟨b, i, none⟩) hbw
      obtain ⟨g0, g1, g2, g3, g4⟩ := hg1
      have hbr : b < wr.heap.size := Nat.lt_of_lt_of_le hbw hB.size
      have step := hp l[k] wr hB
      cases hq : p l[k] with
      | true =>
        have HQ := Lib.hid hq
        go_wp2_with fail
        rw [hF, Oper.upon_enter]
        refine step.mono ?_
        rintro e w1 ⟨rfl, hb1⟩
        have hB1 := since_step hB hb1
        clear hb1
        rw [HQ.out]
        go_wp2
        go_ret
        exact ⟨retI (atL_some hlt2 (fun j hj => hno j (by omega) hj) HQ.out).symm, hB1⟩
      | false =>
        have HQ := Lib.hid hq
        go_wp2_with fail
        rw [hF, Oper.upon_enter]
        refine step.mono ?_
        rintro e w1 ⟨rfl, hb1⟩
        have hB1 := since_step hB hb1
        clear hb1
        rw [HQ.out]
        go_wp2
        go_roundw
        case rel =>
          refine ⟨k + 1, by omega, by go_num, fun j hj hjk => ?_, hB1⟩
          rcases Nat.lt_or_ge j k with h | h
          · exact hno j hj h
          · obtain rfl : j = k := by omega
            exact HQ.out
        case measure => simp [intOf]; omega
    · go_wp2
      go_ret
      exact ⟨retI (atL_none fun j hj => hno j hj (by omega)).symm, hB⟩
end
section
def Iq.Tells2 (F : Nat) (caps : Array Value) (ah : Iq → Iq → Bool) (B : Nat) (w : World) : Prop :=
  ∀ (a b : Iq) (W : World), Below B w W → Calls Tryz.prog F (#[a.val, b.val] ++ caps) W fun e w' => e = .returned (.bool (ah a b)) ∧ Below W.heap.size W w'
theorem Iq.Tells2.below {F : Nat} {caps : Array Value} {ah : Iq → Iq → Bool} {B : Nat} {w w1 : World} (h : Iq.Tells2 F caps ah B w) (hb : Below B w w1) {C : Nat} (hC : B ≤ C) : Iq.Tells2 F caps ah C w1 :=
  fun a b W hW => h a b W (hb.trans (hW.mono hC))
structure Iq.Bx (w : World) (b : Nat) (g : Iq) : Prop where
  lt : b < w.heap.size
  at_ : g.at w b 0
  hp : w.heap[b]? = some (.cells g.cells.toArray 92 (0, 0))
theorem Iq.Bx.new (w : World) (g : Iq) : Iq.Bx (w.alloc (.cells g.cells.toArray 92)) w.heap.size g := by
  have h := heap_alloc_new w (.cells g.cells.toArray 92 (0, 0))
  refine ⟨by simp, Iq.at_of fun j u hu => ?_, h⟩
  rw [Nat.zero_add, cell_of_row _ _ j g.cells.toArray 92 (0, 0) h]
  simpa using hu
theorem Iq.Bx.below {w w' : World} {b : Nat} {g : Iq} (h : Iq.Bx w b g) (hb : Below w.heap.size w w') : Iq.Bx w' b g :=
  ⟨Nat.lt_of_lt_of_le h.lt hb.size, Iq.at_keep h.at_ fun i => hb.cell (p := ⟨b, i, none⟩) h.lt, (hb.block b h.lt).trans h.hp⟩
theorem Iq.Bx.sl {w : World} {b : Nat} {g : Iq} (h : Iq.Bx w b g) : Sl w (some ⟨b, 0, none⟩) g.cells := by
  intro _
  refine ⟨b, 0, rfl, fun j u hu => ?_⟩
  rw [Nat.zero_add, cell_of_row _ _ j g.cells.toArray 92 (0, 0) h.hp]
  simpa using hu
theorem Iq.Bx.got {w : World} {b : Nat} {g : Iq} (h : Iq.Bx w b g) : w.cell? ⟨b, 0, none⟩ = some (.int .i64 g.id) ∧ w.cell? ⟨b, 1, none⟩ = some (.int .i64 g.mult) ∧ w.cell? ⟨b, 2, none⟩ = some (.int .i64 g.price) ∧ w.cell? ⟨b, 3, none⟩ = some (.int .i64 g.nxt) ∧ w.cell? ⟨b, 4, none⟩ = some (.slice g.mv g.mvL g.mvC) := by
  have := h.at_
  unfold Iq.at at this
  simpa only [Nat.zero_add] using this
end
section
structure Sx where
  (n : Int)
deriving DecidableEq
def Sx.cells (g : Sx) : List Value := [.int .i64 g.n]
def Sx.val (g : Sx) : Value := .int .i64 g.n
def Sx.zero : Sx := ⟨0⟩
theorem Sx.len (g : Sx) : g.cells.length = 1 := rfl
theorem Sx.one (g : Sx) : ∀ u ∈ g.cells, u.oneCell' = true := by
  intro u hu
  simp only [Sx.cells, List.mem_cons, List.not_mem_nil, or_false] at hu
  subst hu; rfl
def Sx.at (g : Sx) (w : World) (b o : Nat) : Prop :=
  w.cell? ⟨b, o, none⟩ = some (.int .i64 g.n) ∧ True
theorem Sx.at_of {w : World} {b o : Nat} {g : Sx} (h : ∀ j u, g.cells[j]? = some u → w.cell? ⟨b, o + j, none⟩ = some u) : g.at w b o :=
  ⟨h 0 _ rfl, trivial⟩
theorem Sx.at_keep {w w' : World} {b o : Nat} {g : Sx} (h : g.at w b o) (k : ∀ i, w'.cell? ⟨b, i, none⟩ = w.cell? ⟨b, i, none⟩) : g.at w' b o := by
  unfold Sx.at at *
  simp only [k]
  exact h
theorem Sl.sx {w : World} {A : Option Addr} {l : List Sx} (h : Sl w A (rc Sx.cells l)) {k : Nat} (hk : k < l.length) : ∃ b o, A = some ⟨b, o, none⟩ ∧ b < w.heap.size ∧ l[k].at w b (o + k) := by
  obtain ⟨b, o, hA, hb, hc⟩ := Sl.elem (m := 1) Sx.len (by decide) h hk
  exact ⟨b, o, hA, hb, Sx.at_of (by simpa only [Nat.mul_one] using hc)⟩
theorem ESx : Elem Tryz.prog 71 2 1 8 := Elem.mk' (z := .int .i64 0) (by kernel_rfl) (by kernel_rfl) (by decide) (by decide)
def Sx.Tells (F : Nat) (caps : Array Value) (p : Sx → Bool) (B : Nat) (w : World) : Prop :=
  ∀ (g : Sx) (W : World), Below B w W → Calls Tryz.prog F (#[g.val] ++ caps) W fun e w' => e = .returned (.bool (p g)) ∧ Below W.heap.size W w'
theorem Sx.Tells.below {F : Nat} {caps : Array Value} {p : Sx → Bool} {B : Nat} {w w1 : World} (h : Sx.Tells F caps p B w) (hb : Below B w w1) {C : Nat} (hC : B ≤ C) : Sx.Tells F caps p C w1 :=
  fun g W hW => h g W (hb.trans (hW.mono hC))
theorem clone_sx (A : Option Addr) (cap : Nat) (l : List Sx) (w : World) (hl : l.length ≤ 1000000) (hs : Sl w A (rc Sx.cells l)) :
    Calls Tryz.prog 139 #[.slice A l.length cap] w fun e w' => (∃ A' c', e = .returned (.slice A' l.length c') ∧ w'.ownsRow w.heap.size 2 1 (.slice A' l.length c') l.length (rc Sx.cells l)) ∧ Below w.heap.size w w' := by
  cases A with
  | none =>
    have hn : l = [] := by
      cases l with
      | nil => rfl
      | cons g m => obtain ⟨b, o, e, _⟩ := hs.sx (k := 0) (by simp); cases e
    subst hn
    have hnil := fun w : World => Go.Lib.run_eql_slice_nil (P := Tryz.prog) w 71 2 none 0 cap 0 0 ESx.und
    go_enter Tryz.func139, Tryz.ntmps139
    go_wp2_with fail
    go_ret
    exact ⟨⟨none, 0, rfl, own_nil _ _ _⟩, Below.refl _ _⟩
  | some ad =>
    have hnil := fun w : World => Go.Lib.run_eql_slice_nil (P := Tryz.prog) w 71 2 (some ad) l.length cap 0 0 ESx.und
    go_enter Tryz.func139, Tryz.ntmps139
    go_wp2_with (first
      | (at_builtin; refine wpList_app rfl (.tmp 5) (.tmp 6) rfl ESx rfl rfl (World.ownsRow_made (w := w) #[] 0 (Nat.le_refl _) (Nat.zero_le _) rfl) (rc_length Sx.len l) (hs.alloc _) (rc_one Sx.one l) (by unfold maxLen; omega) (by omega) (by simp) ?_; intro A2 c2 w2 hown2 hg2 hb2; simp only [Nat.zero_add, List.nil_append] at hown2)
      | fail)
    refine bodyPost_ret (results_tmp rfl _ _ _) rfl ⟨⟨A2, c2, by simp, by simpa using hown2⟩, ?_⟩
    exact Below.trans ((Below.refl _ _).alloc (Nat.le_refl _) _) hb2
end
section
def Sx.Tells2 (F : Nat) (caps : Array Value) (ah : Sx → Sx → Bool) (B : Nat) (w : World) : Prop :=
  ∀ (a b : Sx) (W : World), Below B w W → Calls Tryz.prog F (#[a.val, b.val] ++ caps) W fun e w' => e = .returned (.bool (ah a b)) ∧ Below W.heap.size W w'
theorem Sx.Tells2.below {F : Nat} {caps : Array Value} {ah : Sx → Sx → Bool} {B : Nat} {w w1 : World} (h : Sx.Tells2 F caps ah B w) (hb : Below B w w1) {C : Nat} (hC : B ≤ C) : Sx.Tells2 F caps ah C w1 :=
  fun a b W hW => h a b W (hb.trans (hW.mono hC))
structure Sx.Bx (w : World) (b : Nat) (g : Sx) : Prop where
  lt : b < w.heap.size
  at_ : g.at w b 0
  hp : w.heap[b]? = some (.cells g.cells.toArray 2 (0, 0))
theorem Sx.Bx.new (w : World) (g : Sx) : Sx.Bx (w.alloc (.cells g.cells.toArray 2)) w.heap.size g := by
  have h := heap_alloc_new w (.cells g.cells.toArray 2 (0, 0))
  refine ⟨by simp, Sx.at_of fun j u hu => ?_, h⟩
  rw [Nat.zero_add, cell_of_row _ _ j g.cells.toArray 2 (0, 0) h]
  simpa using hu
theorem Sx.Bx.below {w w' : World} {b : Nat} {g : Sx} (h : Sx.Bx w b g) (hb : Below w.heap.size w w') : Sx.Bx w' b g :=
  ⟨Nat.lt_of_lt_of_le h.lt hb.size, Sx.at_keep h.at_ fun i => hb.cell (p := ⟨b, i, none⟩) h.lt, (hb.block b h.lt).trans h.hp⟩
theorem Sx.Bx.sl {w : World} {b : Nat} {g : Sx} (h : Sx.Bx w b g) : Sl w (some ⟨b, 0, none⟩) g.cells := by
  intro _
  refine ⟨b, 0, rfl, fun j u hu => ?_⟩
  rw [Nat.zero_add, cell_of_row _ _ j g.cells.toArray 2 (0, 0) h.hp]
  simpa using hu
theorem Sx.Bx.got {w : World} {b : Nat} {g : Sx} (h : Sx.Bx w b g) : w.cell? ⟨b, 0, none⟩ = some (.int .i64 g.n) ∧ True := by
  have := h.at_
  unfold Sx.at at this
  simpa only [Nat.zero_add] using this
end
end Go.Proofs.YtmjndpkfhdoljaaGreat
