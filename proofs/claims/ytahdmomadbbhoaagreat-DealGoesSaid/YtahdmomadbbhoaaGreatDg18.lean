import Derived.Test.YtahdmomadbbhoaaGreatDg12
import Derived.Test.YtahdmomadbbhoaaGreatDg13
import Derived.Test.YtahdmomadbbhoaaGreatDg17
section
namespace Go.Proofs.YtahdmomadbbhoaaGreat
open Go.ChangeShapes Go.WideShapes Go.ChangeAt Go.RowKit
set_option linter.unusedVariables false
set_option linter.unusedSimpArgs false

theorem BigAt.l128 {w : World} {s : Bool} {A : Option Addr} {n c : Nat} {z : Int} (h : BigAt w s A n c z) (hz : In128 z) : n ≤ 128 := h.len.2 (by
  rw [show (2 : Nat) ^ 128 = 340282366920938463463374607431768211456 from by decide]
  unfold In128 at hz
  omega)
structure BX (B : Nat) (w : World) (g : Nat) (s : Bool) (A : Option Addr) (n c : Nat) (z : Int) : Prop where
  bb : BB w g s A n c
  at_ : BigAt w s A n c z
  fr : Fr B A n
  hg : g < B
section
variable {B : Nat} {w w' : World} {g : Nat} {s : Bool} {A : Option Addr} {n c : Nat} {z : Int}
theorem BX.below (h : BX B w g s A n c z) (hb : Below w.heap.size w w') : BX B w' g s A n c z := ⟨h.bb.below hb, h.at_.below hb, h.fr, h.hg⟩
theorem BX.alloc (h : BX B w g s A n c z) (o : Obj) : BX B (w.alloc o) g s A n c z := h.below ((Below.refl _ _).alloc (Nat.le_refl _) o)
theorem BX.drew (h : BX B w g s A n c z) : BX B w.drew g s A n c z := h.below ⟨rfl, rfl, rfl, Nat.le_refl _, fun _ _ => rfl⟩
theorem BX.set (h : BX B w g s A n c z) {p : Addr} (hp : p.block < B) (hne : p.block ≠ g) (v : Value) : BX B (w.setCell p v) g s A n c z :=
  ⟨h.bb.far hne v, h.at_.far (fun b o hA hn => by have := h.fr b o hA hn; omega) v, h.fr, h.hg⟩
theorem BX.put (h : BX B w g s A n c z) {s' : Bool} {A' : Option Addr} {n' c' : Nat} {z' : Int} (hz : BigAt w s' A' n' c' z') (hf : Fr B A' n') :
    BX B ((w.setCell ⟨g, 0, none⟩ (.bool s')).setCell ⟨g, 1, none⟩ (.slice A' n' c')) g s' A' n' c' z' := by
  have hg := h.hg
  refine ⟨h.bb.set2 s' A' n' c', ?_, hf, hg⟩
  refine BigAt.far (BigAt.far hz ?_ _) ?_ _
  · intro b o hA hn
    have := hf b o hA hn
    show b ≠ g
    omega
  · intro b o hA hn
    have := hf b o hA hn
    show b ≠ g
    omega
theorem BX.pos (h : BX B w g s A n c z) : BX B (w.setCell ⟨g, 0, none⟩ (.bool false)) g false A n c (z.natAbs : Int) := by
  have hg := h.hg
  refine ⟨?_, ?_, h.fr, hg⟩
  · obtain ⟨h0, h1, h2, f1, f2⟩ := h.bb
    refine ⟨by simpa using h0, ?_, ?_, by simpa using f1, by simpa using f2⟩ <;> simp [cell_set, h1, h2]
  · refine BigAt.far h.at_.abs ?_ _
    intro b o hA hn
    have := h.fr b o hA hn
    show b ≠ g
    omega
theorem BX.new (hB : w.heap.size < B) (t : TypeId) : BX B (w.alloc (.cells #[.bool false, .slice none 0 0] t)) w.heap.size false none 0 0 0 :=
  ⟨BB.new w false none 0 0 t, BigAt.zero _, (fun b o h => by cases h), hB⟩
end
end Go.Proofs.YtahdmomadbbhoaaGreat
end
section
namespace Go.Proofs.YtahdmomadbbhoaaGreat
open Go.ChangeShapes Go.WideShapes Go.ChangeAt Go.RowKit
set_option linter.unusedVariables false
set_option linter.unusedSimpArgs false

structure Bg where
  s : Bool
  A : Option Addr
  n : Nat
  c : Nat
def Bg.cells (g : Bg) : List Value := [.bool g.s, .slice g.A g.n g.c]
def Bg.zero : Bg := ⟨false, none, 0, 0⟩
theorem Bg.len (g : Bg) : g.cells.length = 2 := rfl
theorem Bg.one (g : Bg) : ∀ u ∈ g.cells, u.oneCell' = true := by
  intro u hu
  simp only [Bg.cells, List.mem_cons, List.not_mem_nil, or_false] at hu
  rcases hu with h | h <;> subst h <;> rfl
theorem Sl.bg {w : World} {A : Option Addr} {l : List Bg} (h : Sl w A (rc Bg.cells l)) {k : Nat} (hk : k < l.length) : ∃ b o, A = some ⟨b, o, none⟩ ∧ b < w.heap.size ∧ w.cell? ⟨b, o + k * 2, none⟩ = some (.bool l[k].s) ∧ w.cell? ⟨b, o + k * 2 + 1, none⟩ = some (.slice l[k].A l[k].n l[k].c) := by
  obtain ⟨b, o, hA, hb, hc⟩ := Sl.elem (m := 2) Bg.len (by decide) h hk
  exact ⟨b, o, hA, hb, hc 0 _ rfl, hc 1 _ rfl⟩
def BgF (w : World) (g : Nat) (B : List Bg) (f : Nat → Int) : Prop := ∀ j, (h : j < B.length) → BigAt w B[j].s B[j].A B[j].n B[j].c (f j) ∧ Fr g B[j].A B[j].n
theorem BgF.below {w w' : World} {g : Nat} {B : List Bg} {f : Nat → Int} (h : BgF w g B f) (hb : Below w.heap.size w w') : BgF w' g B f := fun j hj => ⟨(h j hj).1.below hb, (h j hj).2⟩
theorem BgF.far {w : World} {g : Nat} {B : List Bg} {f : Nat → Int} (h : BgF w g B f) {p : Addr} (hp : p.block < g) (v : Value) : BgF (w.setCell p v) g B f := fun j hj => by
  obtain ⟨h1, h2⟩ := h j hj
  exact ⟨h1.far (fun b o hA hn => by have := h2 b o hA hn; omega) v, h2⟩
theorem BgF.set {w : World} {g : Nat} {B : List Bg} {f : Nat → Int} (h : BgF w g B f) {k : Nat} {x : Bg} {z : Int} (hx : BigAt w x.s x.A x.n x.c z) (hf : Fr g x.A x.n) : BgF w g (B.set k x) (fun j => if j = k then z else f j) := fun j hj => by
  simp only [List.length_set] at hj
  rw [List.getElem_set]
  by_cases e : k = j
  · subst e; simp; exact ⟨hx, hf⟩
  · rw [if_neg e]
    have e2 : ¬ j = k := fun h => e h.symm
    simp only [if_neg e2]
    exact h j hj
def legsF : Int → List Int → List Lg
  | _, [] => []
  | i, q :: r => (if q = 0 then [] else [⟨i, q⟩]) ++ legsF (i + 1) r
theorem legsF_len : ∀ (i : Int) (l : List Int), (legsF i l).length ≤ l.length
  | _, [] => Nat.le_refl _
  | i, q :: r => by
    have := legsF_len (i + 1) r
    unfold legsF
    split <;> simp <;> omega
open Classical in
noncomputable def ofR (l : List Int) : Int × List Lg := if ∀ q ∈ l, In64 q then (0, legsF 1 l) else (7, [])
def GRes (B : Nat) (w' : World) (e : Ending) (R : Int × List Lg) : Prop :=
  ∃ A' c', e = .returned (.tuple #[.slice A' R.2.length c', .int .i64 R.1]) ∧ w'.ownsRow B 75 2 (.slice A' R.2.length c') R.2.length (rc Lg.cells R.2)
theorem GRes.nil (B : Nat) (w' : World) (n : Int) : GRes B w' (.returned (.tuple #[.slice none 0 0, .int .i64 n])) (n, []) := ⟨none, 0, rfl, own_nil _ _ _⟩
theorem drop_step {zs : List Int} {k : Nat} (h : k < zs.length) {D X : List Lg} (he : D ++ legsF (1 + (k : Int)) (zs.drop k) = X) : (D ++ if zs[k] = 0 then [] else [⟨(k : Int) + 1, zs[k]⟩]) ++ legsF (1 + ((k + 1 : Nat) : Int)) (zs.drop (k + 1)) = X := by
  rw [← he, List.drop_eq_getElem_cons h, legsF]
  have e1 : 1 + (k : Int) + 1 = 1 + ((k + 1 : Nat) : Int) := by omega
  have e2 : (k : Int) + 1 = 1 + (k : Int) := by omega
  rw [e1, e2, List.append_assoc]
set_option maxHeartbeats 8000000 in
set_option maxRecDepth 100000 in
theorem rof_any (A : Option Addr) (cap g : Nat) (B : List Bg) (zs : List Int) (w : World) (hl : B.length ≤ 1000) (hlz : B.length = zs.length) (hz : ∀ z ∈ zs, In128 z) (hs : Sl w A (rc Bg.cells B)) (hb : BgF w g B (fun j => zs.getD j 0)) :
    Calls Tryz.prog 99 #[.slice A B.length cap] w fun e w' => GRes w.heap.size w' e (ofR zs) ∧ Below w.heap.size w w' := by
  obtain ⟨X, hX⟩ : ∃ X, legsF 1 zs = X := ⟨_, rfl⟩
  have HX0 := Lib.hid hX
  have HZ := Lib.hid hz
  have HLZ := Lib.hid hlz
  have HOK : Hid ((∀ q ∈ zs, In64 q) → ofR zs = (0, X)) := Lib.hid fun h => by unfold ofR; rw [if_pos h, hX]
  have HBAD : Hid (∀ k, (h : k < zs.length) → ¬ In64 zs[k] → ofR zs = (7, [])) := Lib.hid fun k h hb => by unfold ofR; rw [if_neg (fun h2 => hb (h2 _ (List.getElem_mem h)))]
  obtain ⟨RR, hRR⟩ : ∃ RR, ofR zs = RR := ⟨_, rfl⟩
  rw [hRR] at HOK HBAD ⊢
  clear hX hz hlz hRR
  go_enter Tryz.func99, Tryz.ntmps99
  go_wp2_with fail
  go_loopw [4, 5] (fun ov i wr => ∃ (k : Nat) (D : List Lg) (A2 : Option Addr) (c2 : Nat), k ≤ B.length ∧ i = .int .i64 k ∧ ov = .slice A2 D.length c2 ∧ wr.ownsRow w.heap.size 75 2 (.slice A2 D.length c2) D.length (rc Lg.cells D) ∧ D.length ≤ k ∧ (∀ j, (hj : j < zs.length) → j < k → In64 zs[j]) ∧ D ++ legsF (1 + (k : Int)) (zs.drop k) = X ∧ Below w.heap.size w wr) (fun _ i _ => B.length - (intOf i).toNat)
  case atStart => exact ⟨0, [], none, 0, by omega, rfl, rfl, own_nil _ _ _, Nat.le_refl _, fun j hj h => absurd h (by omega), HX0.out, Below.refl _ _⟩
  case round =>
    obtain ⟨k, D, A2, c2, hk, rfl, rfl, own2, hDk, hin, hd, hB⟩ := hrel
    by_cases hlt : k < B.length
    · obtain ⟨b, o, rfl, hbw, g0, g1⟩ := (hs.below hB).bg hlt
      have hlk : (k : Int) < (B.length : Int) := by omega
      have hkz : k < zs.length := by rw [← HLZ.out]; exact hlt
      obtain ⟨hbk, hfk⟩ := (hb.below hB) k hlt
      have h128 := HZ.out _ (List.getElem_mem hkz)
      have hgd : zs.getD k 0 = zs[k] := by rw [List.getD_eq_getElem?_getD, List.getElem?_eq_getElem hkz]; rfl
      simp only [hgd] at hbk
      have HST := Lib.hid (drop_step hkz hd)
      have HBK := Lib.hid (HBAD.out k hkz)
      have HIN := Lib.hid (fun (h6 : In64 zs[k]) j (hj : j < zs.length) (hjk : j < k + 1) => show In64 zs[j] by
        rcases Nat.lt_or_ge j k with h' | h'
        · exact hin j hj h'
        · obtain rfl : j = k := by omega
          exact h6)
      have HDK := Lib.hid hDk
      obtain ⟨z, hz⟩ : ∃ z, zs[k] = z := ⟨_, rfl⟩
      rw [hz] at hbk h128 HBK
      simp only [hz] at HST HIN
      clear hz hgd hfk hin hd hDk hkz
      obtain ⟨x, hx⟩ : ∃ x, B[k] = x := ⟨_, rfl⟩
      rw [hx] at g0 g1 hbk
      clear hx
      have hsz := hB.size
      have L1 := hbk.l128 h128
      have HFI := Lib.hid (bfits_any z x.s x.A x.n x.c wr (by omega) hbk)
      by_cases h64 : In64 z
      · have HT : Hid (decide (inN z 63) = true) := Lib.hid (decide_eq_true ((in64_iff _).2 h64))
        rw [HT.out] at HFI
        have HN6 := Lib.hid (HIN.out h64)
        have HH6 := Lib.hid h64
        clear h64 h128 HIN HBK HT L1
        go_wp2_with fail
        refine HFI.out.mono ?_
        rintro e w1 ⟨rfl, hk1⟩
        have hB1 := since_step hB hk1
        have own2 := own_below own2 hk1
        have g0 := (hk1.cell (p := ⟨b, o + k * 2, none⟩) (World.block_lt_of_cell? _ _ g0)).trans g0
        have g1 := (hk1.cell (p := ⟨b, o + k * 2 + 1, none⟩) (World.block_lt_of_cell? _ _ g1)).trans g1
        have hbk := hbk.below hk1
        clear HFI hk1
        go_wp2_with fail
        refine (rint_any z HH6.out x.s x.A x.n x.c w1 hbk).mono ?_
        rintro e w2 ⟨rfl, hk2⟩
        have hB2 := since_step hB1 hk2
        have own2 := own_below own2 hk2
        have hs2 := hB2.size
        clear hk2 g0 g1 hbk
        by_cases h0 : z = 0
        · have hzb : (z == 0) = true := by simpa using h0
          have HST2 : Hid (D ++ legsF (1 + ((k + 1 : Nat) : Int)) (zs.drop (k + 1)) = X) := Lib.hid (by have := HST.out; rw [if_pos h0, List.append_nil] at this; exact this)
          have HD2 := Lib.hid (show D.length ≤ k + 1 by have := HDK.out; omega)
          clear HST h0
          go_wp2_with fail
          go_roundw
          case rel => exact ⟨k + 1, D, A2, c2, by omega, by go_num, rfl, own2, HD2.out, HN6.out, HST2.out, hB2⟩
          case measure => simp [intOf]; omega
        · have hzb : (z == 0) = false := by simpa using h0
          have hw1 : IntKind.i64.wrap ((k : Int) + 1) = (k : Int) + 1 := IntWalk.i64_in _ (by omega)
          have HST2 : Hid ((D ++ [(⟨(k : Int) + 1, z⟩ : Lg)]) ++ legsF (1 + ((k + 1 : Nat) : Int)) (zs.drop (k + 1)) = X) := Lib.hid (by have := HST.out; rw [if_neg h0] at this; exact this)
          have HD2 := Lib.hid (show (D ++ [(⟨(k : Int) + 1, z⟩ : Lg)]).length ≤ k + 1 by have := HDK.out; simp; omega)
          have hD6 : D.length ≤ 1000 := by have := HDK.out; omega
          clear HST h0 HDK
          go_wp2_with (first
            | (at_builtin; refine wpList_app rfl (.tmp 26) (.tmp 31) rfl ELg rfl rfl (own2.alloc _) (m := 1) (news := (⟨(k : Int) + 1, z⟩ : Lg).cells) rfl (Sl.new_ _ _ _) (Lg.one _) (by unfold maxLen; omega) (by omega) (by simp only [World.size_alloc]; omega) ?_; intro A3 c3 w3 own3 hg3 hb3)
            | fail)
          have hB3 := (since_alloc hB2 (.cells #[.int .i64 ((k : Int) + 1), .int .i64 z] 75)).trans hb3
          go_roundw
          case rel => exact ⟨k + 1, D ++ [⟨(k : Int) + 1, z⟩], A3, c3, by omega, by go_num, by simp, by simpa [rc] using own3, HD2.out, HN6.out, HST2.out, hB3⟩
          case measure => simp [intOf]; omega
      · have HT : Hid (decide (inN z 63) = false) := Lib.hid (decide_eq_false (fun h => h64 ((in64_iff _).1 h)))
        rw [HT.out] at HFI
        have HE := Lib.hid (HBK.out h64)
        clear h64 h128 HIN HBK HT L1
        go_wp2_with fail
        refine HFI.out.mono ?_
        rintro e w1 ⟨rfl, hk1⟩
        have hB1 := since_step hB hk1
        go_wp2_with fail
        go_ret2
        rw [HE.out]
        exact ⟨GRes.nil _ _ _, hB1⟩
    · obtain rfl : k = B.length := by omega
      have HE : Hid (RR = (0, D)) := Lib.hid (by
        have e1 := HOK.out (fun q hq => by
          obtain ⟨j, hj, rfl⟩ := List.getElem_of_mem hq
          exact hin j hj (by rw [HLZ.out]; exact hj))
        rw [HLZ.out, List.drop_length, legsF, List.append_nil] at hd
        rw [e1, hd])
      clear hin hd
      go_wp2_with fail
      go_ret2
      rw [HE.out]
      exact ⟨⟨A2, c2, rfl, own2⟩, hB⟩
end Go.Proofs.YtahdmomadbbhoaaGreat
end
