import Derived.Test.YtldnponbkhgijaaBK04
import Derived.Deep.DeepCutAuto
import Derived.Deep.RegionHeld3
import Derived.Test.YtldnponbkhgijaaBK03
import Derived.Test.YtldnponbkhgijaaBK00
section
namespace Go.Proofs.Ytldnponbkhgijaa
open Go.ChangeShapes Go.WideShapes Go.ChangeAt Go.RowKit
set_option linter.unusedVariables false
set_option linter.unusedSimpArgs false

theorem BigAt.l128 {w : World} {s : Bool} {A : Option Addr} {n c : Nat} {z : Int} (h : BigAt w s A n c z) (hz : In128 z) : n ≤ 128 := h.len.2 (by
  rw [show (2 : Nat) ^ 128 = 340282366920938463463374607431768211456 from by decide]
  unfold In128 at hz
  omega)
structure BX (B : Nat) (w : World) (g : Nat) (s : Bool) (A : Option Addr) (n c : Nat) (z : Int) : Prop where
  bb : BB w g s A n c
  at_ : BigAt w s A n c z
  fr : Fr B A n
  hg : g < B
section
variable {B : Nat} {w w' : World} {g : Nat} {s : Bool} {A : Option Addr} {n c : Nat} {z : Int}
theorem BX.below (h : BX B w g s A n c z) (hb : Below w.heap.size w w') : BX B w' g s A n c z := ⟨h.bb.below hb, h.at_.below hb, h.fr, h.hg⟩
theorem BX.alloc (h : BX B w g s A n c z) (o : Obj) : BX B (w.alloc o) g s A n c z := h.below ((Below.refl _ _).alloc (Nat.le_refl _) o)
theorem BX.drew (h : BX B w g s A n c z) : BX B w.drew g s A n c z := h.below ⟨rfl, rfl, rfl, Nat.le_refl _, fun _ _ => rfl⟩
theorem BX.set (h : BX B w g s A n c z) {p : Addr} (hp : p.block < B) (hne : p.block ≠ g) (v : Value) : BX B (w.setCell p v) g s A n c z :=
  ⟨h.bb.far hne v, h.at_.far (fun b o hA hn => by have := h.fr b o hA hn; omega) v, h.fr, h.hg⟩
theorem BX.put (h : BX B w g s A n c z) {s' : Bool} {A' : Option Addr} {n' c' : Nat} {z' : Int} (hz : BigAt w s' A' n' c' z') (hf : Fr B A' n') :
    BX B ((w.setCell ⟨g, 0, none⟩ (.bool s')).setCell ⟨g, 1, none⟩ (.slice A' n' c')) g s' A' n' c' z' := by
  have hg := h.hg
  refine ⟨h.bb.set2 s' A' n' c', ?_, hf, hg⟩
  refine BigAt.far (BigAt.far hz ?_ _) ?_ _
  · intro b o hA hn
    have := hf b o hA hn
    show b ≠ g
    omega
  · intro b o hA hn
    have := hf b o hA hn
    show b ≠ g
    omega
theorem BX.pos (h : BX B w g s A n c z) : BX B (w.setCell ⟨g, 0, none⟩ (.bool false)) g false A n c (z.natAbs : Int) := by
  have hg := h.hg
  refine ⟨?_, ?_, h.fr, hg⟩
  · obtain ⟨h0, h1, h2, f1, f2⟩ := h.bb
    refine ⟨by simpa using h0, ?_, ?_, by simpa using f1, by simpa using f2⟩ <;> simp [cell_set, h1, h2]
  · refine BigAt.far h.at_.abs ?_ _
    intro b o hA hn
    have := h.fr b o hA hn
    show b ≠ g
    omega
theorem BX.new (hB : w.heap.size < B) (t : TypeId) : BX B (w.alloc (.cells #[.bool false, .slice none 0 0] t)) w.heap.size false none 0 0 0 :=
  ⟨BB.new w false none 0 0 t, BigAt.zero _, (fun b o h => by cases h), hB⟩
end
end Go.Proofs.Ytldnponbkhgijaa
end
section
namespace Go.Proofs.Ytldnponbkhgijaa
open Go.ChangeShapes Go.WideShapes Go.ChangeAt Go.RowKit
set_option linter.unusedVariables false
set_option linter.unusedSimpArgs false

def All64 (l : List Int) : Prop := ∀ x ∈ l, In64 x
theorem sum_bound (l : List Int) (h : All64 l) : -(l.length : Int) * 9223372036854775808 ≤ l.sum ∧ l.sum ≤ (l.length : Int) * 9223372036854775808 := by
  induction l with
  | nil => simp
  | cons a m ih =>
    have h1 := ih (fun x hx => h x (by simp [hx]))
    have h2 := h a (by simp)
    unfold In64 at h2
    simp only [List.length_cons, List.sum_cons]
    omega
theorem sum_in128 (l : List Int) (h : All64 l) (hl : l.length ≤ 1000000) : In128 l.sum := by
  have := sum_bound l h
  unfold In128
  omega
set_option maxHeartbeats 1000000 in
theorem fsub_any (a b : Int) (ha : In64 a) (hb : In64 b) (w : World) :
    Calls Try.prog 89 #[.int .i64 a, .int .i64 b] w fun e w' => e = .returned (.tuple #[.int .i64 (fV (a - b)), .int .i64 (fE (a - b))]) ∧ Below w.heap.size w w' := by
  have ha128 := (of_in a ha).2.2
  have hb128 := (of_in b hb).2.2
  have hin : In128 (a + -b) := by unfold In64 at ha hb; unfold In128; omega
  have HE := Lib.hid (wideE_yes hin)
  have HS := Lib.hid (show a + -b = a - b by omega)
  go_enter Try.func89, Try.ntmps89
  go_wp2_with fail
  refine (wof_any a ha _).mono ?_
  rintro e w1 ⟨rfl, hb1⟩
  have hB1 := since_step (Below.refl _ _) hb1
  clear hb1
  go_wp2_with fail
  refine (wof_any b hb _).mono ?_
  rintro e w2 ⟨rfl, hb2⟩
  have hB2 := since_step hB1 hb2
  clear hb2 hB1
  go_wp2_with fail
  refine (wsub_any a b ha128 hb128 _).mono ?_
  rintro e w3 ⟨rfl, hb3⟩
  have hB3 := since_step hB2 hb3
  rw [HE.out]
  clear hb3 hB2
  go_wp2_with fail
  refine (int_any (a + -b) hin _).mono ?_
  rintro e w4 ⟨rfl, hb4⟩
  have hB4 := since_step (since_alloc hB3 _) hb4
  rw [HS.out]
  clear hb4 hB3
  go_wp2_with fail
  go_ret2
  exact ⟨rfl, hB4⟩
set_option maxHeartbeats 8000000 in
theorem fsum_any (A : Option Addr) (cap : Nat) (l : List Int) (w : World) (hl : l.length ≤ 1000000) (hx : All64 l) (hs : Sl w A (ints .i64 l)) :
    Calls Try.prog 152 #[.slice A l.length cap] w fun e w' => e = .returned (.tuple #[.int .i64 (fV l.sum), .int .i64 (fE l.sum)]) ∧ Below w.heap.size w w' := by
  obtain ⟨z1, z2, z3⟩ := zero_parts
  go_enter Try.func152, Try.ntmps152
  go_wp2
  go_loopw [11] (fun i wr => ∃ k : Nat, k ≤ l.length ∧ i = .int .i64 k ∧ T2 wr w.heap.size (hiN (l.take k).sum) (loN (l.take k).sum) ∧ Below w.heap.size w wr) (fun i _ => l.length - (intOf i).toNat)
  case atStart =>
    refine ⟨0, by omega, rfl, ?_, (Below.refl _ _).alloc (Nat.le_refl _) _⟩
    simp only [List.take_zero, List.sum_nil, z1, z2]
    exact T2.new w 0 0 _
  case round =>
    obtain ⟨k, hk, rfl, ht, hB⟩ := hrel
    by_cases hlt : k < l.length
    · obtain ⟨b, o, rfl, hzw⟩ := hs.int hlt
      have hbw : b < w.heap.size := World.block_lt_of_cell? _ _ hzw
      have hz := (hB.cell (p := ⟨b, o + k, none⟩) hbw).trans hzw
      have hbr : b < wr.heap.size := Nat.lt_of_lt_of_le hbw hB.size
      have hsum : (l.take (k + 1)).sum = (l.take k).sum + l[k] := by rw [take_snoc l k hlt, List.sum_append]; simp
      have h1 : In128 (l.take k).sum := sum_in128 _ (fun x h => hx x (List.mem_of_mem_take h)) (by simp; omega)
      have h2 : In128 (l.take (k + 1)).sum := sum_in128 _ (fun x h => hx x (List.mem_of_mem_take h)) (by simp; omega)
      have hin := hx _ (List.getElem_mem hlt)
      rw [hsum] at h2
      have HS := Lib.hid hsum
      clear hsum
      generalize l[k] = x at *
      generalize (l.take k).sum = y at *
      have HE := Lib.hid (wideE_yes h2)
      obtain ⟨a0, a1, a2, f1, f2⟩ := id ht
      have hcs := @cell_set
      have HTW := Lib.hid ht
      go_upto_region 5 with fail
      go_cut [7, 8] (fun s7 s8 wx => ∃ g : Nat, s7 = .pointer (some ⟨g, 0, none⟩) ∧ s8 = .int .i64 0 ∧ T2 wx g (hiN (y + x)) (loN (y + x)) ∧ T2 wx w.heap.size (hiN y) (loN y) ∧ g ≠ w.heap.size ∧ Below w.heap.size w wx)
      case first =>
        go_region_with (first
          | (go_at_call 77; refine (wof_any x hin _).mono ?_; rintro e w1 ⟨rfl, hb1⟩; have hT1 : T2 w1 w.heap.size (hiN y) (loN y) := (by first | exact ht.drew.below hb1 | exact (ht.drew.alloc _).below hb1); have hB1 : Below w.heap.size w w1 := (by first | exact since_step hB.drew hb1 | exact since_step (since_alloc hB.drew _) hb1); (first | have G1 : T2 w1 wr.heap.size 0 0 := (T2.new wr.drew 0 0 28).below hb1 | skip); have hz1 : wr.heap.size ≤ w1.heap.size := (by have := hb1.size; simp at this; omega); obtain ⟨b0, b1, b2, b3, b4⟩ := id hT1; clear hb1)
          | (go_at_call 78; refine (wadd_any _ 2 [y, x] _ (by simp) (by intro z hz; simp at hz; rcases hz with rfl | rfl; exact h1; exact (of_in _ hin).2.2) (by first | exact Sl.new_ _ _ _ | exact (Sl.new_ _ _ _).alloc _ | exact Sl.new1 _ _ _ _)).mono ?_; rintro e w2 ⟨rfl, hb2⟩; have hT2 : T2 w2 w.heap.size (hiN y) (loN y) := (by first | exact (hT1.alloc _).below hb2 | exact ((hT1.alloc _).alloc _).below hb2); have hB2 : Below w.heap.size w w2 := (by first | exact since_step (since_alloc hB1 _) hb2 | exact since_step (since_alloc (since_alloc hB1 _) _) hb2); (first | have G2 := (G1.alloc _).below hb2 | have G2 := ((T2.new w1 0 0 28).alloc _).below hb2 | (have G2 := (T2.new (w1.alloc (.cells #[.int .i64 (hiN y), .int .u64 (loN y), .int .i64 (hiN x), .int .u64 (loN x)] 28)) 0 0 28).below hb2; rw [World.size_alloc] at G2) | skip); (first | obtain ⟨g0, g1, g2, g3, g4⟩ := _root_.id G2 | skip); rw [show [y, x].sum = y + x from by simp, HE.out]; have hz2 : w1.heap.size < w2.heap.size := (by have := hb2.size; simp at this; omega); clear hb2))
        all_goals
          go_wp2_with fail
          go_meet
          case rel =>
            first
              | exact ⟨_, rfl, rfl, G2.set2 _ _, (hT2.far (by simp; omega) _).far (by simp; omega) _, by simp; omega, by
                  refine Below.setCell (Below.setCell hB2 ?_ _) ?_ _ <;> (simp; omega)⟩
              | exact ⟨_, rfl, rfl, T2.new _ _ _ _, hT2.alloc _, by simp; omega, since_alloc hB2 _⟩
      case rest =>
        obtain ⟨g, rfl, rfl, hG, hT, hne, hBx⟩ := hcut
        obtain ⟨g0, g1, g2, g3, g4⟩ := id hG
        obtain ⟨t0, t1, t2, t3, t4⟩ := id hT
        clear hz ht a0 a1 a2 f1 f2
        go_wp2
        go_roundw
        case rel =>
          refine ⟨k + 1, by omega, by go_num, ?_, ?_⟩
          · rw [HS.out]
            exact hT.set2 _ _
          · refine Below.setCell (Below.setCell hBx ?_ _) ?_ _ <;> simp
        case measure => simp [intOf]; omega
    · obtain rfl : k = l.length := by omega
      rw [List.take_length] at ht
      have h128 := sum_in128 l hx hl
      obtain ⟨a0, a1, a2, f1, f2⟩ := id ht
      go_wp2_with fail
      refine (int_any l.sum h128 _).mono ?_
      rintro e w1 ⟨rfl, hb1⟩
      have hB1 := since_step hB hb1
      go_wp2_with fail
      go_ret2
      exact ⟨rfl, hB1⟩
end Go.Proofs.Ytldnponbkhgijaa
end
section
namespace Go.Proofs.Ytldnponbkhgijaa
open Go.ChangeShapes Go.WideShapes Go.ChangeAt Go.RowKit
set_option linter.unusedVariables false
set_option linter.unusedSimpArgs false

theorem in64_iff (z : Int) : inN z 63 ↔ In64 z := by rw [inN_63]; exact Iff.rfl
end Go.Proofs.Ytldnponbkhgijaa
end
section
namespace Go.Proofs.Ytldnponbkhgijaa
open Go.ChangeShapes Go.WideShapes Go.ChangeAt Go.RowKit
set_option linter.unusedVariables false
set_option linter.unusedSimpArgs false

structure Bg where
  s : Bool
  A : Option Addr
  n : Nat
  c : Nat
def Bg.cells (g : Bg) : List Value := [.bool g.s, .slice g.A g.n g.c]
def Bg.zero : Bg := ⟨false, none, 0, 0⟩
theorem Bg.len (g : Bg) : g.cells.length = 2 := rfl
theorem Bg.one (g : Bg) : ∀ u ∈ g.cells, u.oneCell' = true := by
  intro u hu
  simp only [Bg.cells, List.mem_cons, List.not_mem_nil, or_false] at hu
  rcases hu with h | h <;> subst h <;> rfl
theorem Sl.bg {w : World} {A : Option Addr} {l : List Bg} (h : Sl w A (rc Bg.cells l)) {k : Nat} (hk : k < l.length) : ∃ b o, A = some ⟨b, o, none⟩ ∧ b < w.heap.size ∧ w.cell? ⟨b, o + k * 2, none⟩ = some (.bool l[k].s) ∧ w.cell? ⟨b, o + k * 2 + 1, none⟩ = some (.slice l[k].A l[k].n l[k].c) := by
  obtain ⟨b, o, hA, hb, hc⟩ := Sl.elem (m := 2) Bg.len (by decide) h hk
  exact ⟨b, o, hA, hb, hc 0 _ rfl, hc 1 _ rfl⟩
def BgF (w : World) (g : Nat) (B : List Bg) (f : Nat → Int) : Prop := ∀ j, (h : j < B.length) → BigAt w B[j].s B[j].A B[j].n B[j].c (f j) ∧ Fr g B[j].A B[j].n
theorem BgF.below {w w' : World} {g : Nat} {B : List Bg} {f : Nat → Int} (h : BgF w g B f) (hb : Below w.heap.size w w') : BgF w' g B f := fun j hj => ⟨(h j hj).1.below hb, (h j hj).2⟩
theorem BgF.far {w : World} {g : Nat} {B : List Bg} {f : Nat → Int} (h : BgF w g B f) {p : Addr} (hp : p.block < g) (v : Value) : BgF (w.setCell p v) g B f := fun j hj => by
  obtain ⟨h1, h2⟩ := h j hj
  exact ⟨h1.far (fun b o hA hn => by have := h2 b o hA hn; omega) v, h2⟩
theorem BgF.set {w : World} {g : Nat} {B : List Bg} {f : Nat → Int} (h : BgF w g B f) {k : Nat} {x : Bg} {z : Int} (hx : BigAt w x.s x.A x.n x.c z) (hf : Fr g x.A x.n) : BgF w g (B.set k x) (fun j => if j = k then z else f j) := fun j hj => by
  simp only [List.length_set] at hj
  rw [List.getElem_set]
  by_cases e : k = j
  · subst e; simp; exact ⟨hx, hf⟩
  · rw [if_neg e]
    have e2 : ¬ j = k := fun h => e h.symm
    simp only [if_neg e2]
    exact h j hj
def legsF : Int → List Int → List Lg
  | _, [] => []
  | i, q :: r => (if q = 0 then [] else [⟨i, q⟩]) ++ legsF (i + 1) r
theorem legsF_len : ∀ (i : Int) (l : List Int), (legsF i l).length ≤ l.length
  | _, [] => Nat.le_refl _
  | i, q :: r => by
    have := legsF_len (i + 1) r
    unfold legsF
    split <;> simp <;> omega
open Classical in
noncomputable def ofR (l : List Int) : Int × List Lg := if ∀ q ∈ l, In64 q then (0, legsF 1 l) else (7, [])
def GRes (B : Nat) (w' : World) (e : Ending) (R : Int × List Lg) : Prop :=
  ∃ A' c', e = .returned (.tuple #[.slice A' R.2.length c', .int .i64 R.1]) ∧ w'.ownsRow B 138 2 (.slice A' R.2.length c') R.2.length (rc Lg.cells R.2)
theorem GRes.nil (B : Nat) (w' : World) (n : Int) : GRes B w' (.returned (.tuple #[.slice none 0 0, .int .i64 n])) (n, []) := ⟨none, 0, rfl, own_nil _ _ _⟩
theorem drop_step {zs : List Int} {k : Nat} (h : k < zs.length) {D X : List Lg} (he : D ++ legsF (1 + (k : Int)) (zs.drop k) = X) : (D ++ if zs[k] = 0 then [] else [⟨(k : Int) + 1, zs[k]⟩]) ++ legsF (1 + ((k + 1 : Nat) : Int)) (zs.drop (k + 1)) = X := by
  rw [← he, List.drop_eq_getElem_cons h, legsF]
  have e1 : 1 + (k : Int) + 1 = 1 + ((k + 1 : Nat) : Int) := by omega
  have e2 : (k : Int) + 1 = 1 + (k : Int) := by omega
  rw [e1, e2, List.append_assoc]
set_option maxHeartbeats 8000000 in
set_option maxRecDepth 100000 in
theorem rof_any (A : Option Addr) (cap g : Nat) (B : List Bg) (zs : List Int) (w : World) (hl : B.length ≤ 1000) (hlz : B.length = zs.length) (hz : ∀ z ∈ zs, In128 z) (hs : Sl w A (rc Bg.cells B)) (hb : BgF w g B (fun j => zs.getD j 0)) :
    Calls Try.prog 114 #[.slice A B.length cap] w fun e w' => GRes w.heap.size w' e (ofR zs) ∧ Below w.heap.size w w' := by
  obtain ⟨X, hX⟩ : ∃ X, legsF 1 zs = X := ⟨_, rfl⟩
  have HX0 := Lib.hid hX
  have HZ := Lib.hid hz
  have HLZ := Lib.hid hlz
  have HOK : Hid ((∀ q ∈ zs, In64 q) → ofR zs = (0, X)) := Lib.hid fun h => by unfold ofR; rw [if_pos h, hX]
  have HBAD : Hid (∀ k, (h : k < zs.length) → ¬ In64 zs[k] → ofR zs = (7, [])) := Lib.hid fun k h hb => by unfold ofR; rw [if_neg (fun h2 => hb (h2 _ (List.getElem_mem h)))]
  obtain ⟨RR, hRR⟩ : ∃ RR, ofR zs = RR := ⟨_, rfl⟩
  rw [hRR] at HOK HBAD ⊢
  clear hX hz hlz hRR
  go_enter Try.func114, Try.ntmps114
  go_wp2_with fail
  go_loopw [4, 5] (fun ov i wr => ∃ (k : Nat) (D : List Lg) (A2 : Option Addr) (c2 : Nat), k ≤ B.length ∧ i = .int .i64 k ∧ ov = .slice A2 D.length c2 ∧ wr.ownsRow w.heap.size 138 2 (.slice A2 D.length c2) D.length (rc Lg.cells D) ∧ D.length ≤ k ∧ (∀ j, (hj : j < zs.length) → j < k → In64 zs[j]) ∧ D ++ legsF (1 + (k : Int)) (zs.drop k) = X ∧ Below w.heap.size w wr) (fun _ i _ => B.length - (intOf i).toNat)
  case atStart => exact ⟨0, [], none, 0, by omega, rfl, rfl, own_nil _ _ _, Nat.le_refl _, fun j hj h => absurd h (by omega), HX0.out, Below.refl _ _⟩
  case round =>
    obtain ⟨k, D, A2, c2, hk, rfl, rfl, own2, hDk, hin, hd, hB⟩ := hrel
    by_cases hlt : k < B.length
    · obtain ⟨b, o, rfl, hbw, g0, g1⟩ := (hs.below hB).bg hlt
      have hlk : (k : Int) < (B.length : Int) := by omega
      have hkz : k < zs.length := by rw [← HLZ.out]; exact hlt
      obtain ⟨hbk, hfk⟩ := (hb.below hB) k hlt
      have h128 := HZ.out _ (List.getElem_mem hkz)
      have hgd : zs.getD k 0 = zs[k] := by rw [List.getD_eq_getElem?_getD, List.getElem?_eq_getElem hkz]; rfl
      simp only [hgd] at hbk
      have HST := Lib.hid (drop_step hkz hd)
      have HBK := Lib.hid (HBAD.out k hkz)
      have HIN := Lib.hid (fun (h6 : In64 zs[k]) j (hj : j < zs.length) (hjk : j < k + 1) => show In64 zs[j] by
        rcases Nat.lt_or_ge j k with h' | h'
        · exact hin j hj h'
        · obtain rfl : j = k := by omega
          exact h6)
      have HDK := Lib.hid hDk
      obtain ⟨z, hz⟩ : ∃ z, zs[k] = z := ⟨_, rfl⟩
      rw [hz] at hbk h128 HBK
      simp only [hz] at HST HIN
      clear hz hgd hfk hin hd hDk hkz
      obtain ⟨x, hx⟩ : ∃ x, B[k] = x := ⟨_, rfl⟩
      rw [hx] at g0 g1 hbk
      clear hx
      have hsz := hB.size
      have L1 := hbk.l128 h128
      have HFI := Lib.hid (bfits_any z x.s x.A x.n x.c wr (by omega) hbk)
      by_cases h64 : In64 z
      · have HT : Hid (decide (inN z 63) = true) := Lib.hid (decide_eq_true ((in64_iff _).2 h64))
        rw [HT.out] at HFI
        have HN6 := Lib.hid (HIN.out h64)
        have HH6 := Lib.hid h64
        clear h64 h128 HIN HBK HT L1
        go_wp2_with fail
        refine HFI.out.mono ?_
        rintro e w1 ⟨rfl, hk1⟩
        have hB1 := since_step hB hk1
        have own2 := own_below own2 hk1
        have g0 := (hk1.cell (p := ⟨b, o + k * 2, none⟩) (World.block_lt_of_cell? _ _ g0)).trans g0
        have g1 := (hk1.cell (p := ⟨b, o + k * 2 + 1, none⟩) (World.block_lt_of_cell? _ _ g1)).trans g1
        have hbk := hbk.below hk1
        clear HFI hk1
        go_wp2_with fail
        refine (rint_any z HH6.out x.s x.A x.n x.c w1 hbk).mono ?_
        rintro e w2 ⟨rfl, hk2⟩
        have hB2 := since_step hB1 hk2
        have own2 := own_below own2 hk2
        have hs2 := hB2.size
        clear hk2 g0 g1 hbk
        by_cases h0 : z = 0
        · have hzb : (z == 0) = true := by simpa using h0
          have HST2 : Hid (D ++ legsF (1 + ((k + 1 : Nat) : Int)) (zs.drop (k + 1)) = X) := Lib.hid (by have := HST.out; rw [if_pos h0, List.append_nil] at this; exact this)
          have HD2 := Lib.hid (show D.length ≤ k + 1 by have := HDK.out; omega)
          clear HST h0
          go_wp2_with fail
          go_roundw
          case rel => exact ⟨k + 1, D, A2, c2, by omega, by go_num, rfl, own2, HD2.out, HN6.out, HST2.out, hB2⟩
          case measure => simp [intOf]; omega
        · have hzb : (z == 0) = false := by simpa using h0
          have hw1 : IntKind.i64.wrap ((k : Int) + 1) = (k : Int) + 1 := IntWalk.i64_in _ (by omega)
          have HST2 : Hid ((D ++ [(⟨(k : Int) + 1, z⟩ : Lg)]) ++ legsF (1 + ((k + 1 : Nat) : Int)) (zs.drop (k + 1)) = X) := Lib.hid (by have := HST.out; rw [if_neg h0] at this; exact this)
          have HD2 := Lib.hid (show (D ++ [(⟨(k : Int) + 1, z⟩ : Lg)]).length ≤ k + 1 by have := HDK.out; simp; omega)
          have hD6 : D.length ≤ 1000 := by have := HDK.out; omega
          clear HST h0 HDK
          go_wp2_with (first
            | (at_builtin; refine wpList_app rfl (.tmp 26) (.tmp 31) rfl ELg rfl rfl (own2.alloc _) (m := 1) (news := (⟨(k : Int) + 1, z⟩ : Lg).cells) rfl (Sl.new_ _ _ _) (Lg.one _) (by unfold maxLen; omega) (by omega) (by simp only [World.size_alloc]; omega) ?_; intro A3 c3 w3 own3 hg3 hb3)
            | fail)
          have hB3 := (since_alloc hB2 (.cells #[.int .i64 ((k : Int) + 1), .int .i64 z] 138)).trans hb3
          go_roundw
          case rel => exact ⟨k + 1, D ++ [⟨(k : Int) + 1, z⟩], A3, c3, by omega, by go_num, by simp, by simpa [rc] using own3, HD2.out, HN6.out, HST2.out, hB3⟩
          case measure => simp [intOf]; omega
      · have HT : Hid (decide (inN z 63) = false) := Lib.hid (decide_eq_false (fun h => h64 ((in64_iff _).1 h)))
        rw [HT.out] at HFI
        have HE := Lib.hid (HBK.out h64)
        clear h64 h128 HIN HBK HT L1
        go_wp2_with fail
        refine HFI.out.mono ?_
        rintro e w1 ⟨rfl, hk1⟩
        have hB1 := since_step hB hk1
        go_wp2_with fail
        go_ret2
        rw [HE.out]
        exact ⟨GRes.nil _ _ _, hB1⟩
    · obtain rfl : k = B.length := by omega
      have HE : Hid (RR = (0, D)) := Lib.hid (by
        have e1 := HOK.out (fun q hq => by
          obtain ⟨j, hj, rfl⟩ := List.getElem_of_mem hq
          exact hin j hj (by rw [HLZ.out]; exact hj))
        rw [HLZ.out, List.drop_length, legsF, List.append_nil] at hd
        rw [e1, hd])
      clear hin hd
      go_wp2_with fail
      go_ret2
      rw [HE.out]
      exact ⟨⟨A2, c2, rfl, own2⟩, hB⟩
end Go.Proofs.Ytldnponbkhgijaa
end
section
namespace Go.Proofs.Ytldnponbkhgijaa
open Go.ChangeShapes Go.WideShapes Go.ChangeAt Go.RowKit
set_option linter.unusedVariables false
set_option linter.unusedSimpArgs false

theorem EBg : Elem Try.prog 162 35 2 32 := Elem.mk' (z := .agg #[.bool false, .slice none 0 0]) (by kernel_rfl) (by kernel_rfl) (by decide) (by decide)
theorem wpList_mk8 {w : World} {ops : Array Oper} {rest : List Oper} {o : Oper} {a : Act} {Q : Exit → Act → World → Prop} (hg : o.guard = none) (hop : o.op = Op.makeSlice 162 (.const (.int .i64 8)) (.const (.int .i64 8)))
    (h : ∀ w', w'.ownsRow w.heap.size 35 2 (.slice (some ⟨w.heap.size, 0, none⟩) 8 8) 8 (rc Bg.cells (List.replicate 8 Bg.zero)) → Below w.heap.size w w' → wpList Try.prog ops Q rest (a.put o.dst (.slice (some ⟨w.heap.size, 0, none⟩) 8 8)) w') :
    wpList Try.prog ops Q (o :: rest) a w := by
  have hi : (Try.prog.info? 35).map (fun i => (i.zero, i.size, i.bytes)) = some (some (.agg #[.bool false, .slice none 0 0]), 2, 32) := by kernel_rfl
  obtain ⟨i, h1, h2, h3, h4⟩ := info_parts hi
  refine wpList_make_full w hg _ _ _ hop w.heap.size _ i (.agg #[.bool false, .slice none 0 0]) 2 EBg.und h1 h2 h3 .i64 .i64 8 8 8 rfl rfl rfl rfl (by rw [h4]; decide) (by decide) (Nat.le_refl _) fun w' r1 r2 => h w' ?_ (below_of_grown r2 (Nat.le_refl _) (by simp))
  have e : (madeCells (Value.agg #[.bool false, .slice none 0 0]).cells (8 * 2)).toList = rc Bg.cells (List.replicate 8 Bg.zero) := by kernel_rfl
  rw [e] at r1
  exact r1
theorem rc_set_bg : ∀ (l : List Bg) (k : Nat) (h : k < l.length) (x : Bg), ((rc Bg.cells l).set (k * 2) (.bool x.s)).set (k * 2 + 1) (.slice x.A x.n x.c) = rc Bg.cells (l.set k x)
  | [], k, h, _ => by simp at h
  | a :: l, 0, _, x => by simp [rc, Bg.cells]
  | a :: l, k + 1, h, x => by
    have ih := rc_set_bg l k (by simpa using h) x
    rw [List.set_cons_succ, rc_cons, rc_cons, ← ih]
    have e1 : (k + 1) * 2 = k * 2 + 1 + 1 := by omega
    rw [e1]
    simp [Bg.cells]
theorem own_set_bg {w : World} {base g n c : Nat} {l : List Bg} (h : w.ownsRow base 35 2 (.slice (some ⟨g, 0, none⟩) n c) n (rc Bg.cells l)) {k : Nat} (hk : k < l.length) (x : Bg) :
    ((w.setCell ⟨g, k * 2, none⟩ (.bool x.s)).setCell ⟨g, k * 2 + 1, none⟩ (.slice x.A x.n x.c)).ownsRow base 35 2 (.slice (some ⟨g, 0, none⟩) n c) n (rc Bg.cells (l.set k x)) := by
  have hl := rc_length Bg.len l
  have h1 := own_set1 h (k := k * 2) (by omega) (.bool x.s)
  have h2 := own_set1 h1 (k := k * 2 + 1) (by rw [List.length_set]; omega) (.slice x.A x.n x.c)
  rw [rc_set_bg l k hk x] at h2
  exact h2
theorem BgF.congr {w : World} {g : Nat} {B : List Bg} {f f' : Nat → Int} (h : BgF w g B f) (e : ∀ j, j < B.length → f j = f' j) : BgF w g B f' := fun j hj => by rw [← e j hj]; exact h j hj
theorem BgF.zero (w : World) (g : Nat) : BgF w g (List.replicate 8 Bg.zero) (fun _ => 0) := fun j hj => by
  rw [List.getElem_replicate]
  exact ⟨BigAt.zero w, fun b o h => by cases h⟩
def sumG (S : List (RowS Lg)) (i : Nat) (j : Nat) : Int := ((S.take i).map fun s => getG s.l ((j : Int) + 1)).sum
theorem sumG_zero (S : List (RowS Lg)) (j : Nat) : sumG S 0 j = 0 := rfl
theorem sumG_succ (S : List (RowS Lg)) {i : Nat} (h : i < S.length) (j : Nat) : sumG S (i + 1) j = sumG S i j + getG S[i].l ((j : Int) + 1) := by
  unfold sumG
  rw [List.take_succ_eq_append_getElem h, List.map_append, List.sum_append]; simp
theorem getG_in {l : List Lg} (h : ∀ y ∈ l, In64 y.qty) (i : Int) : In64 (getG l i) := by
  unfold getG pickL
  cases hf : l.find? (inG i) with
  | none => simp [Lg.zero]; decide
  | some y => exact h y (List.mem_of_find?_eq_some hf)
theorem sumG_bd {S : List (RowS Lg)} (h : ∀ s ∈ S, ∀ y ∈ s.l, In64 y.qty) (j : Nat) : ∀ i, i ≤ S.length → -(i : Int) * 9223372036854775808 ≤ sumG S i j ∧ sumG S i j ≤ (i : Int) * 9223372036854775808
  | 0, _ => by rw [sumG_zero]; simp
  | i + 1, hi => by
    have ih := sumG_bd h j i (by omega)
    have h1 := getG_in (h _ (List.getElem_mem (show i < S.length by omega))) ((j : Int) + 1)
    rw [sumG_succ S (by omega)]
    unfold In64 at h1
    omega
theorem sumG_in {S : List (RowS Lg)} (h : ∀ s ∈ S, ∀ y ∈ s.l, In64 y.qty) (hl : S.length ≤ 1000) (j i : Nat) (hi : i ≤ S.length) : In128 (sumG S i j) := by
  have := sumG_bd h j i hi
  unfold In128
  omega
open Classical in
noncomputable def addR (S : List (RowS Lg)) : Int × List Lg := if ∀ s ∈ S, isG s.l = true then ofR ((List.range 8).map fun j => sumG S S.length j) else (3, [])
structure KeepA (w : World) (B : List Bg) (f : Nat → Int) (V : World) : Prop where
  bel : Below w.heap.size w V
  own : V.ownsRow w.heap.size 35 2 (.slice (some ⟨w.heap.size, 0, none⟩) 8 8) 8 (rc Bg.cells B)
  num : BgF V (w.heap.size + 1) B f
  lt : w.heap.size < V.heap.size
theorem KeepA.step {w V V' : World} {B : List Bg} {f : Nat → Int} (h : KeepA w B f V) (hb : Below V.heap.size V V') : KeepA w B f V' :=
  ⟨since_step h.bel hb, own_below h.own hb, h.num.below hb, Nat.lt_of_lt_of_le h.lt hb.size⟩
theorem KeepA.drew {w V : World} {B : List Bg} {f : Nat → Int} (h : KeepA w B f V) : KeepA w B f V.drew := h.step ⟨rfl, rfl, rfl, Nat.le_refl _, fun _ _ => rfl⟩
theorem KeepA.got {w V : World} {B : List Bg} {f : Nat → Int} (h : KeepA w B f V) {k : Nat} (hk : k < B.length) : V.cell? ⟨w.heap.size, k * 2, none⟩ = some (.bool B[k].s) ∧ V.cell? ⟨w.heap.size, k * 2 + 1, none⟩ = some (.slice B[k].A B[k].n B[k].c) ∧ (∀ i, V.frozen? ⟨w.heap.size, i, none⟩ = false) := by
  obtain ⟨b, o, e, _, g0, g1⟩ := (Sl.of_own h.own).bg hk
  injection e with e
  injection e with e1 e2
  subst e1; subst e2
  rw [Nat.zero_add] at g0 g1
  exact ⟨g0, g1, (own_slice_g h.own).2.2.1⟩
theorem KeepA.set {w V : World} {B : List Bg} {f f' : Nat → Int} (h : KeepA w B f V) {k : Nat} (hk : k < B.length) {x : Bg} {z : Int} (hx : BigAt V x.s x.A x.n x.c z) (hf : Fr (w.heap.size + 1) x.A x.n) (he : ∀ j, j < B.length → (if j = k then z else f j) = f' j) :
    KeepA w (B.set k x) f' ((V.setCell ⟨w.heap.size, k * 2, none⟩ (.bool x.s)).setCell ⟨w.heap.size, k * 2 + 1, none⟩ (.slice x.A x.n x.c)) := by
  refine ⟨Below.setCell (Below.setCell h.bel (p := ⟨w.heap.size, k * 2, none⟩) (Nat.le_refl _) _) (p := ⟨w.heap.size, k * 2 + 1, none⟩) (Nat.le_refl _) _, own_set_bg h.own hk x, ?_, by simpa using h.lt⟩
  have hn := (h.num.far (p := ⟨w.heap.size, k * 2, none⟩) (Nat.lt_succ_self _) (.bool x.s)).far (p := ⟨w.heap.size, k * 2 + 1, none⟩) (Nat.lt_succ_self _) (.slice x.A x.n x.c)
  have hx2 : BigAt ((V.setCell ⟨w.heap.size, k * 2, none⟩ (.bool x.s)).setCell ⟨w.heap.size, k * 2 + 1, none⟩ (.slice x.A x.n x.c)) x.s x.A x.n x.c z :=
    (hx.far (fun b o hA hn => by have := hf b o hA hn; show b ≠ w.heap.size; omega) _).far (fun b o hA hn => by have := hf b o hA hn; show b ≠ w.heap.size; omega) _
  exact (hn.set (k := k) (x := x) hx2 hf).congr (by simpa using he)
set_option maxHeartbeats 8000000 in
set_option maxRecDepth 100000 in
theorem radd_any (A : Option Addr) (cap : Nat) (S : List (RowS Lg)) (w : World) (hl : S.length ≤ 1000) (hn : ∀ s ∈ S, s.l.length ≤ 1000000) (hq : ∀ s ∈ S, ∀ y ∈ s.l, In64 y.qty) (hs : Sl w A (rc RowS.cells S)) (ho : RowsOk w Lg.cells S) :
    Calls Try.prog 51 #[.slice A S.length cap] w fun e w' => GRes w.heap.size w' e (addR S) ∧ Below w.heap.size w w' := by
  have HN := Lib.hid hn
  have HQ := Lib.hid hq
  have H128 : Hid (∀ i j, i ≤ S.length → In128 (sumG S i j)) := Lib.hid fun i j h => sumG_in hq hl j i h
  have HBAD : Hid (∀ i, (h : i < S.length) → isG S[i].l = false → addR S = (3, [])) := Lib.hid fun i h hb => by
    unfold addR
    rw [if_neg (fun h2 => by rw [h2 _ (List.getElem_mem h)] at hb; cases hb)]
  have HEND : Hid ((∀ j, (hj : j < S.length) → isG S[j].l = true) → addR S = ofR ((List.range 8).map fun j => sumG S S.length j)) := Lib.hid fun h => by
    unfold addR
    rw [if_pos fun s hs => by obtain ⟨j, hj, rfl⟩ := List.getElem_of_mem hs; exact h j hj]
  generalize addR S = RR at *
  clear hn hq
  go_enter Try.func51, Try.ntmps51
  go_wp2_with (first | (at_make; refine wpList_mk8 rfl rfl ?_; intro w1 own1 hb1) | fail)
  have hK0 : KeepA w (List.replicate 8 Bg.zero) (sumG S 0) w1 := ⟨hb1, own1, (BgF.zero w1 _).congr fun j hj => rfl, (own_slice_g own1).2.1⟩
  clear own1 hb1
  go_loopw [5] (fun iv wr => ∃ (i : Nat) (B : List Bg), i ≤ S.length ∧ iv = .int .i64 i ∧ (∀ j, (hj : j < S.length) → j < i → isG S[j].l = true) ∧ B.length = 8 ∧ KeepA w B (sumG S i) wr) (fun iv _ => S.length - (intOf iv).toNat)
  case atStart => exact ⟨0, _, by omega, rfl, fun j hj h => absurd h (by omega), rfl, hK0⟩
  case round =>
    obtain ⟨i, B, hi, rfl, hno, hB8, hA⟩ := hrel
    clear hK0
    by_cases hlt : i < S.length
    · have hli : (i : Int) < (S.length : Int) := by omega
      have HNX : Hid (isG S[i].l = true → ∀ j, (hj : j < S.length) → j < i + 1 → isG S[j].l = true) := Lib.hid (fun h j hj hjk => by
        rcases Nat.lt_or_ge j i with h' | h'
        · exact hno j hj h'
        · obtain rfl : j = i := by omega
          exact h)
      have HBD := Lib.hid (HBAD.out i hlt)
      have HSU : Hid (∀ j, sumG S (i + 1) j = sumG S i j + getG S[i].l ((j : Int) + 1)) := Lib.hid fun j => sumG_succ S hlt j
      have hll := HN.out _ (List.getElem_mem hlt)
      have HQ6 := Lib.hid (HQ.out _ (List.getElem_mem hlt))
      obtain ⟨b, o, rfl, hbw, hg⟩ := hs.rowS hlt
      have hin := ho S[i] (List.getElem_mem hlt)
      obtain ⟨s, hs1⟩ : ∃ s, S[i] = s := ⟨_, rfl⟩
      rw [hs1] at hll hin hg HBD HNX HQ6
      simp only [hs1] at HSU
      have HG : Hid (∀ V, Below w.heap.size w V → V.cell? ⟨b, o + i, none⟩ = some (.slice s.A s.l.length s.c)) := Lib.hid fun V hV => (hV.cell (p := ⟨b, o + i, none⟩) hbw).trans hg
      have HIN : Hid (∀ V, Below w.heap.size w V → Sl V s.A (rc Lg.cells s.l)) := Lib.hid fun V hV => hin.below hV
      have HIS := Lib.hid (fun V h => rvis_any s.A s.c s.l V hll h)
      have HGT := Lib.hid (fun i V h => rvget_any s.A s.c s.l i V hll h)
      have hge : (0 : Int) ≤ (i : Int) := by omega
      clear hno hs1 hin hg
      cases hq : isG s.l with
      | false =>
        have HE := Lib.hid (HBD.out hq)
        rw [hq] at HIS
        clear hq HBD HNX
        have g2 := HG.out _ hA.bel
        go_wp2_with fail
        refine (HIS.out _ (HIN.out _ hA.bel)).mono ?_
        rintro e w2 ⟨rfl, hb⟩
        have hB2 := since_step hA.bel hb
        go_wp2_with fail
        go_ret2
        rw [HE.out]
        exact ⟨GRes.nil _ _ _, hB2⟩
      | true =>
        have HN1 := Lib.hid (HNX.out hq)
        rw [hq] at HIS
        clear hq HBD HNX
        have g2 := HG.out _ hA.bel
        go_wp2_with fail
        refine (HIS.out _ (HIN.out _ hA.bel)).mono ?_
        rintro e w2 ⟨rfl, hb⟩
        have hAs := hA.step hb
        clear hb g2 HIS hA
        generalize wr = wz at *
        go_wp2_with fail
        go_loopw [6] (fun kv wr => ∃ (k : Nat) (B : List Bg), k ≤ 8 ∧ kv = .int .i64 k ∧ B.length = 8 ∧ KeepA w B (fun j => sumG S i j + if j < k then getG s.l ((j : Int) + 1) else 0) wr) (fun kv _ => 8 - (intOf kv).toNat)
        case atStart => exact ⟨0, B, by omega, rfl, hB8, ⟨hAs.bel, hAs.own, hAs.num.congr fun j _ => by simp, hAs.lt⟩⟩
        case round =>
          clear hAs hB8
          obtain ⟨k, B2, hk, rfl, hB8, hA⟩ := hrel
          by_cases hlt2 : k < 8
          · have hlk : (k : Int) < 8 := by omega
            have hgk : (0 : Int) ≤ (k : Int) := by omega
            have hk8 : k < B2.length := by omega
            have hw1 : IntKind.i64.wrap ((k : Int) + 1) = (k : Int) + 1 := IntWalk.i64_in _ (by omega)
            obtain ⟨x, hBk⟩ : ∃ x, B2[k] = x := ⟨_, rfl⟩
            have hq6 := getG_in HQ6.out ((k : Int) + 1)
            have HGK := Lib.hid (HGT.out ((k : Int) + 1))
            have hf1 : sumG S i k + (if k < k then getG s.l ((k : Int) + 1) else 0) = sumG S i k := by simp
            have h128 := H128.out i k (by omega)
            obtain ⟨q, hqq⟩ : ∃ q, getG s.l ((k : Int) + 1) = q := ⟨_, rfl⟩
            have HEE : Hid (∀ j, j < B2.length → (if j = k then sumG S i k + q else sumG S i j + if j < k then getG s.l ((j : Int) + 1) else 0) = sumG S i j + if j < k + 1 then getG s.l ((j : Int) + 1) else 0) := Lib.hid fun j hj => by
              by_cases e : j = k
              · subst e; rw [if_pos rfl, if_pos (by omega), hqq]
              · rw [if_neg e]
                by_cases e2 : j < k
                · rw [if_pos e2, if_pos (by omega)]
                · rw [if_neg e2, if_neg (by omega)]
            rw [hqq] at hq6 HGK
            have HX6 : Hid (∀ V, KeepA w B2 (fun j => sumG S i j + if j < k then getG s.l ((j : Int) + 1) else 0) V → BigAt V x.s x.A x.n x.c (sumG S i k)) := Lib.hid fun V hV => by
              have := (hV.num k hk8).1
              rw [hBk] at this
              simpa using this
            have HGOT : Hid (∀ V, KeepA w B2 (fun j => sumG S i j + if j < k then getG s.l ((j : Int) + 1) else 0) V → V.cell? ⟨w.heap.size, k * 2, none⟩ = some (.bool x.s) ∧ V.cell? ⟨w.heap.size, k * 2 + 1, none⟩ = some (.slice x.A x.n x.c) ∧ V.frozen? ⟨w.heap.size, k * 2, none⟩ = false ∧ V.frozen? ⟨w.heap.size, k * 2 + 1, none⟩ = false) := Lib.hid fun V hV => by
              obtain ⟨a1, a2, a3⟩ := hV.got hk8
              rw [hBk] at a1 a2
              exact ⟨a1, a2, a3 _, a3 _⟩
            have HQ64 := Lib.hid hq6
            have HF128 := Lib.hid h128
            have HOF := Lib.hid (fun V => bof_any q V hq6)
            have HSET : Hid (∀ V s2 A2 m2 k2, KeepA w B2 (fun j => sumG S i j + if j < k then getG s.l ((j : Int) + 1) else 0) V → BigAt V s2 A2 m2 k2 (sumG S i k + q) → Fr (w.heap.size + 1) A2 m2 → KeepA w (B2.set k ⟨s2, A2, m2, k2⟩) (fun j => sumG S i j + if j < k + 1 then getG s.l ((j : Int) + 1) else 0) ((V.setCell ⟨w.heap.size, k * 2, none⟩ (.bool s2)).setCell ⟨w.heap.size, k * 2 + 1, none⟩ (.slice A2 m2 k2))) := Lib.hid fun V s2 A2 m2 k2 hV hy hf => hV.set hk8 (x := ⟨s2, A2, m2, k2⟩) hy hf HEE.out
            have HB8 : Hid (∀ x, (B2.set k x).length = 8) := Lib.hid fun x => by rw [List.length_set]; exact hB8
            generalize sumG S i k = z at *
            obtain ⟨KA, hKE⟩ : ∃ KA, KeepA w B2 (fun j => sumG S i j + if j < k then getG s.l ((j : Int) + 1) else 0) = KA := ⟨_, rfl⟩
            obtain ⟨KC, hKC⟩ : ∃ KC : Bg → World → Prop, (fun x => KeepA w (B2.set k x) (fun j => sumG S i j + if j < k + 1 then getG s.l ((j : Int) + 1) else 0)) = KC := ⟨_, rfl⟩
            have HST : Hid (∀ V V', KA V → Below V.heap.size V V' → KA V') := Lib.hid fun V V' h hb => by rw [← hKE] at h ⊢; exact h.step hb
            have HBE : Hid (∀ V, KA V → Below w.heap.size w V ∧ w.heap.size < V.heap.size) := Lib.hid fun V h => by rw [← hKE] at h; exact ⟨h.bel, h.lt⟩
            have HKC : Hid (∀ x V, KC x V → KeepA w (B2.set k x) (fun j => sumG S i j + if j < k + 1 then getG s.l ((j : Int) + 1) else 0) V) := Lib.hid fun x V h => by rw [← hKC] at h; exact h
            have HSET2 : Hid (∀ V s2 A2 m2 k2, KA V → BigAt V s2 A2 m2 k2 (z + q) → Fr (w.heap.size + 1) A2 m2 → KC ⟨s2, A2, m2, k2⟩ ((V.setCell ⟨w.heap.size, k * 2, none⟩ (.bool s2)).setCell ⟨w.heap.size, k * 2 + 1, none⟩ (.slice A2 m2 k2))) := Lib.hid fun V s2 A2 m2 k2 hV hy hf => by rw [← hKE] at hV; rw [← hKC]; exact HSET.out V s2 A2 m2 k2 hV hy hf
            rw [hKE] at hA HX6 HGOT
            have hKA : KA wr.drew := HST.out _ _ hA ⟨rfl, rfl, rfl, Nat.le_refl _, fun _ _ => rfl⟩
            have hBel := (HBE.out _ hA).1
            clear HSET HEE hKE hKC hBk hqq hf1 h128 hq6 hB8 hk8 hA
            go_wp2_with fail
            refine wp_region_held_drew (S := (fun V => Below w.heap.size w V)) (by kernel_rfl) (by exact hBel.drew) (fun hHeld => ?_)
            refine wpAnyH_take (i := 0) (oi := { dst := some 24, op := _, type := _, pos := _, after := _, guard := _ }) (v := ?_) rfl (by kernel_rfl) (by kernel_rfl) (by kernel_rfl) (fun _ _ _ h => h) (Or.inl ⟨by rfl, ?_⟩) hHeld ?_
            rotate_left
            · (intro w hSw; have g2 := HG.out _ hSw; go_simp <;> with_reducible rfl)
            try simp only [Act.put, List.setIfInBounds_toArray, List.set_cons_zero, List.set_cons_succ]
            refine wpAnyH_take (i := 1) (oi := { dst := some 25, op := _, type := _, pos := _, after := _, guard := _ }) (v := ?_) rfl (by kernel_rfl) (by kernel_rfl) (by kernel_rfl) (fun _ _ _ h => h) (Or.inl ⟨by rfl, ?_⟩) hHeld ?_
            rotate_left
            · (intro w hSw; have g2 := HG.out _ hSw; go_simp <;> with_reducible rfl)
            try simp only [Act.put, List.setIfInBounds_toArray, List.set_cons_zero, List.set_cons_succ]
            refine wpAnyH_take (i := 2) (oi := { dst := some 26, op := _, type := _, pos := _, after := _, guard := _ }) (v := ?_) rfl (by kernel_rfl) (by kernel_rfl) (by kernel_rfl) (fun _ _ _ h => h) (Or.inl ⟨by rfl, ?_⟩) hHeld ?_
            rotate_left
            · (intro w hSw; have g2 := HG.out _ hSw; go_simp <;> with_reducible rfl)
            try simp only [Act.put, List.setIfInBounds_toArray, List.set_cons_zero, List.set_cons_succ]
            refine wpAnyH_take (i := 3) (oi := { dst := some 27, op := _, type := _, pos := _, after := _, guard := _ }) (v := ?_) rfl (by kernel_rfl) (by kernel_rfl) (by kernel_rfl) (fun _ _ _ h => h) (Or.inl ⟨by rfl, ?_⟩) hHeld ?_
            rotate_left
            · (intro w hSw; have g2 := HG.out _ hSw; go_simp <;> with_reducible rfl)
            try simp only [Act.put, List.setIfInBounds_toArray, List.set_cons_zero, List.set_cons_succ]
            refine wpAnyH_take (i := 4) (oi := { dst := some 28, op := _, type := _, pos := _, after := _, guard := _ }) (v := ?_) rfl (by kernel_rfl) (by kernel_rfl) (by kernel_rfl) (fun _ _ _ h => h) (Or.inl ⟨by rfl, ?_⟩) hHeld ?_
            rotate_left
            · (intro w hSw; have g2 := HG.out _ hSw; go_simp <;> with_reducible rfl)
            try simp only [Act.put, List.setIfInBounds_toArray, List.set_cons_zero, List.set_cons_succ]
            refine wpAnyH_take (i := 6) (oi := { dst := some 30, op := _, type := _, pos := _, after := _, guard := _ }) (v := ?_) rfl (by kernel_rfl) (by kernel_rfl) (by kernel_rfl) (fun _ _ _ h => h) (Or.inl ⟨by rfl, ?_⟩) hHeld ?_
            rotate_left
            · (intro w hSw; have g2 := HG.out _ hSw; go_simp <;> with_reducible rfl)
            try simp only [Act.put, List.setIfInBounds_toArray, List.set_cons_zero, List.set_cons_succ]
            refine wpAnyH_take (i := 7) (oi := { dst := some 31, op := _, type := _, pos := _, after := _, guard := _ }) (v := ?_) rfl (by kernel_rfl) (by kernel_rfl) (by kernel_rfl) (fun _ _ _ h => h) (Or.inl ⟨by rfl, ?_⟩) hHeld ?_
            rotate_left
            · (intro w hSw; have g2 := HG.out _ hSw; go_simp <;> with_reducible rfl)
            try simp only [Act.put, List.setIfInBounds_toArray, List.set_cons_zero, List.set_cons_succ]
            refine wpAnyH_take (i := 8) (oi := { dst := some 32, op := _, type := _, pos := _, after := _, guard := _ }) (v := ?_) rfl (by kernel_rfl) (by kernel_rfl) (by kernel_rfl) (fun _ _ _ h => h) (Or.inl ⟨by rfl, ?_⟩) hHeld ?_
            rotate_left
            · (intro w hSw; have g2 := HG.out _ hSw; go_simp <;> with_reducible rfl)
            try simp only [Act.put, List.setIfInBounds_toArray, List.set_cons_zero, List.set_cons_succ]
            refine wpAnyH_take (i := 9) (oi := { dst := some 33, op := _, type := _, pos := _, after := _, guard := _ }) (v := ?_) rfl (by kernel_rfl) (by kernel_rfl) (by kernel_rfl) (fun _ _ _ h => h) (Or.inl ⟨by rfl, ?_⟩) hHeld ?_
            rotate_left
            · (intro w hSw; have g2 := HG.out _ hSw; go_simp <;> with_reducible rfl)
            try simp only [Act.put, List.setIfInBounds_toArray, List.set_cons_zero, List.set_cons_succ]
            refine wpAnyH_take (i := 10) (oi := { dst := some 34, op := _, type := _, pos := _, after := _, guard := _ }) (v := ?_) rfl (by kernel_rfl) (by kernel_rfl) (by kernel_rfl) (fun _ _ _ h => h) (Or.inl ⟨by rfl, ?_⟩) hHeld ?_
            rotate_left
            · (intro w hSw; have g2 := HG.out _ hSw; go_simp <;> with_reducible rfl)
            try simp only [Act.put, List.setIfInBounds_toArray, List.set_cons_zero, List.set_cons_succ]
            refine wpAnyH_take (i := 11) (oi := { dst := some 35, op := _, type := _, pos := _, after := _, guard := _ }) (v := ?_) rfl (by kernel_rfl) (by kernel_rfl) (by kernel_rfl) (fun _ _ _ h => h) (Or.inl ⟨by rfl, ?_⟩) hHeld ?_
            rotate_left
            · (intro w hSw; have g2 := HG.out _ hSw; go_simp <;> with_reducible rfl)
            try simp only [Act.put, List.setIfInBounds_toArray, List.set_cons_zero, List.set_cons_succ]
            refine wpAnyH_ready (rs := [5, 12]) (by kernel_rfl) (by simp) ?_
            refine AllReadyH.cons (o := { dst := some 29, op := _, type := _, pos := _, after := _, guard := _ }) rfl (fun K hK => ?_) (AllReadyH.cons (o := { dst := some 36, op := _, type := _, pos := _, after := _, guard := _ }) rfl (fun K hK => ?_) AllReadyH.nil)
            · have hHd := hHeld
              have g2 := HG.out _ hHd
              obtain ⟨g0, g1, z0, z1⟩ := HGOT.out _ hKA
              have hKeep := hHeld
              go_simp
              refine hK.out _ _ (by (try dsimp only); exact hKeep) (fun hHeld => ?_)
              clear hK K hKeep
              try simp only [Act.put, List.setIfInBounds_toArray, List.set_cons_zero, List.set_cons_succ]
              refine wpAnyH_ready (rs := [12]) (by kernel_rfl) (by simp) ?_
              refine AllReadyH.cons (o := { dst := some 36, op := _, type := _, pos := _, after := _, guard := _ }) rfl (fun K hK => ?_) AllReadyH.nil
              go_simp
              refine (HGK.out _ (HIN.out _ hHeld)).mono ?_
              rintro e u1 ⟨rfl, hk1⟩
              have hKeep := since_step hHeld hk1
              have hKA := HST.out _ _ hKA hk1
              go_wp2_with fail
              refine hK.out _ _ (by (try dsimp only); exact hKeep) (fun hHeld => ?_)
              clear hK K hKeep
              try simp only [Act.put, List.setIfInBounds_toArray, List.set_cons_zero, List.set_cons_succ]
              refine wpAnyH_ready (rs := [13]) (by kernel_rfl) (by simp) ?_
              refine AllReadyH.cons (o := { dst := some 37, op := _, type := _, pos := _, after := _, guard := _ }) rfl (fun K hK => ?_) AllReadyH.nil
              go_simp
              refine (HOF.out _).mono ?_
              rintro e u2 ⟨⟨s1, A1, m1, k1, rfl, hf1, Y1⟩, hk2⟩
              have hKeep := since_step hHeld hk2
              have hKA := HST.out _ _ hKA hk2
              have L1 := Y1.l64 HQ64.out
              go_wp2_with fail
              refine hK.out _ _ (by (try dsimp only); exact hKeep) (fun hHeld => ?_)
              clear hK K hKeep
              try simp only [Act.put, List.setIfInBounds_toArray, List.set_cons_zero, List.set_cons_succ]
              refine wpAnyH_ready (rs := [14]) (by kernel_rfl) (by simp) ?_
              refine AllReadyH.cons (o := { dst := some 38, op := _, type := _, pos := _, after := _, guard := _ }) rfl (fun K hK => ?_) AllReadyH.nil
              go_simp
              have hX6 := HX6.out _ hKA
              have L6 := hX6.l128 HF128.out
              have hlu := (HBE.out _ hKA).2
              refine (badd' (by omega) (by omega) hX6 Y1).mono ?_
              rintro e u3 ⟨⟨s2, A2, m2, k2, rfl, hf2, Y2⟩, hk3⟩
              have hKeep := since_step hHeld hk3
              have hKA := HST.out _ _ hKA hk3
              go_wp2_with fail
              refine hK.out _ _ (by (try dsimp only); exact hKeep) (fun hHeld => ?_)
              clear hK K hKeep
              try simp only [Act.put, List.setIfInBounds_toArray, List.set_cons_zero, List.set_cons_succ]
              refine wpAnyH_take (i := 15) (oi := { dst := some 39, op := _, type := _, pos := _, after := _, guard := _ }) (v := ?_) rfl (by kernel_rfl) (by kernel_rfl) (by kernel_rfl) (fun _ _ _ h => h) (Or.inl ⟨by rfl, ?_⟩) hHeld ?_
              rotate_left
              · (intro w hSw; have g2 := HG.out _ hSw; go_simp <;> with_reducible rfl)
              try simp only [Act.put, List.setIfInBounds_toArray, List.set_cons_zero, List.set_cons_succ]
              refine wpAnyH_ready (rs := [16]) (by kernel_rfl) (by simp) ?_
              refine AllReadyH.cons (o := { dst := none, op := _, type := _, pos := _, after := _, guard := _ }) rfl (fun K hK => ?_) AllReadyH.nil
              have hHd := hHeld
              have g2 := HG.out _ hHd
              obtain ⟨g0, g1, z0, z1⟩ := HGOT.out _ hKA
              have hF : Fr (w.heap.size + 1) A2 m2 := hf2.le (by omega) (Nat.le_refl _)
              have hCN := HSET2.out _ s2 A2 m2 k2 hKA Y2 hF
              have hKeep := Below.setCell (Below.setCell hHeld (p := ⟨w.heap.size, k * 2, none⟩) (Nat.le_refl _) (.bool s2)) (p := ⟨w.heap.size, k * 2 + 1, none⟩) (Nat.le_refl _) (.slice A2 m2 k2)
              skip
              go_simp
              refine hK.out _ _ (by (try dsimp only); exact hKeep) (fun hHeld => ?_)
              clear hK K hKeep
              try simp only [Act.put, List.setIfInBounds_toArray, List.set_cons_zero, List.set_cons_succ]
              refine wpAnyH_done (by kernel_rfl) ?_ _
              generalize hFW : ((u3.setCell ⟨w.heap.size, k * 2, none⟩ (.bool s2)).setCell ⟨w.heap.size, k * 2 + 1, none⟩ (.slice A2 m2 k2)) = FW at *
              have hA2 := HKC.out _ _ hCN
              clear hFW hCN
              go_wp2_with fail
              go_roundw
              case rel => exact ⟨k + 1, B2.set k ⟨s2, A2, m2, k2⟩, by omega, by go_num, HB8.out _, hA2⟩
              case measure => simp [intOf]; omega
            · go_simp
              refine (HGK.out _ (HIN.out _ hHeld)).mono ?_
              rintro e u1 ⟨rfl, hk1⟩
              have hKeep := since_step hHeld hk1
              have hKA := HST.out _ _ hKA hk1
              go_wp2_with fail
              refine hK.out _ _ (by (try dsimp only); exact hKeep) (fun hHeld => ?_)
              clear hK K hKeep
              try simp only [Act.put, List.setIfInBounds_toArray, List.set_cons_zero, List.set_cons_succ]
              refine wpAnyH_ready (rs := [5, 13]) (by kernel_rfl) (by simp) ?_
              refine AllReadyH.cons (o := { dst := some 29, op := _, type := _, pos := _, after := _, guard := _ }) rfl (fun K hK => ?_) (AllReadyH.cons (o := { dst := some 37, op := _, type := _, pos := _, after := _, guard := _ }) rfl (fun K hK => ?_) AllReadyH.nil)
              · have hHd := hHeld
                have g2 := HG.out _ hHd
                obtain ⟨g0, g1, z0, z1⟩ := HGOT.out _ hKA
                have hKeep := hHeld
                go_simp
                refine hK.out _ _ (by (try dsimp only); exact hKeep) (fun hHeld => ?_)
                clear hK K hKeep
                try simp only [Act.put, List.setIfInBounds_toArray, List.set_cons_zero, List.set_cons_succ]
                refine wpAnyH_ready (rs := [13]) (by kernel_rfl) (by simp) ?_
                refine AllReadyH.cons (o := { dst := some 37, op := _, type := _, pos := _, after := _, guard := _ }) rfl (fun K hK => ?_) AllReadyH.nil
                go_simp
                refine (HOF.out _).mono ?_
                rintro e u2 ⟨⟨s1, A1, m1, k1, rfl, hf1, Y1⟩, hk2⟩
                have hKeep := since_step hHeld hk2
                have hKA := HST.out _ _ hKA hk2
                have L1 := Y1.l64 HQ64.out
                go_wp2_with fail
                refine hK.out _ _ (by (try dsimp only); exact hKeep) (fun hHeld => ?_)
                clear hK K hKeep
                try simp only [Act.put, List.setIfInBounds_toArray, List.set_cons_zero, List.set_cons_succ]
                refine wpAnyH_ready (rs := [14]) (by kernel_rfl) (by simp) ?_
                refine AllReadyH.cons (o := { dst := some 38, op := _, type := _, pos := _, after := _, guard := _ }) rfl (fun K hK => ?_) AllReadyH.nil
                go_simp
                have hX6 := HX6.out _ hKA
                have L6 := hX6.l128 HF128.out
                have hlu := (HBE.out _ hKA).2
                refine (badd' (by omega) (by omega) hX6 Y1).mono ?_
                rintro e u3 ⟨⟨s2, A2, m2, k2, rfl, hf2, Y2⟩, hk3⟩
                have hKeep := since_step hHeld hk3
                have hKA := HST.out _ _ hKA hk3
                go_wp2_with fail
                refine hK.out _ _ (by (try dsimp only); exact hKeep) (fun hHeld => ?_)
                clear hK K hKeep
                try simp only [Act.put, List.setIfInBounds_toArray, List.set_cons_zero, List.set_cons_succ]
                refine wpAnyH_take (i := 15) (oi := { dst := some 39, op := _, type := _, pos := _, after := _, guard := _ }) (v := ?_) rfl (by kernel_rfl) (by kernel_rfl) (by kernel_rfl) (fun _ _ _ h => h) (Or.inl ⟨by rfl, ?_⟩) hHeld ?_
                rotate_left
                · (intro w hSw; have g2 := HG.out _ hSw; go_simp <;> with_reducible rfl)
                try simp only [Act.put, List.setIfInBounds_toArray, List.set_cons_zero, List.set_cons_succ]
                refine wpAnyH_ready (rs := [16]) (by kernel_rfl) (by simp) ?_
                refine AllReadyH.cons (o := { dst := none, op := _, type := _, pos := _, after := _, guard := _ }) rfl (fun K hK => ?_) AllReadyH.nil
                have hHd := hHeld
                have g2 := HG.out _ hHd
                obtain ⟨g0, g1, z0, z1⟩ := HGOT.out _ hKA
                have hF : Fr (w.heap.size + 1) A2 m2 := hf2.le (by omega) (Nat.le_refl _)
                have hCN := HSET2.out _ s2 A2 m2 k2 hKA Y2 hF
                have hKeep := Below.setCell (Below.setCell hHeld (p := ⟨w.heap.size, k * 2, none⟩) (Nat.le_refl _) (.bool s2)) (p := ⟨w.heap.size, k * 2 + 1, none⟩) (Nat.le_refl _) (.slice A2 m2 k2)
                skip
                go_simp
                refine hK.out _ _ (by (try dsimp only); exact hKeep) (fun hHeld => ?_)
                clear hK K hKeep
                try simp only [Act.put, List.setIfInBounds_toArray, List.set_cons_zero, List.set_cons_succ]
                refine wpAnyH_done (by kernel_rfl) ?_ _
                generalize hFW : ((u3.setCell ⟨w.heap.size, k * 2, none⟩ (.bool s2)).setCell ⟨w.heap.size, k * 2 + 1, none⟩ (.slice A2 m2 k2)) = FW at *
                have hA2 := HKC.out _ _ hCN
                clear hFW hCN
                go_wp2_with fail
                go_roundw
                case rel => exact ⟨k + 1, B2.set k ⟨s2, A2, m2, k2⟩, by omega, by go_num, HB8.out _, hA2⟩
                case measure => simp [intOf]; omega
              · go_simp
                refine (HOF.out _).mono ?_
                rintro e u2 ⟨⟨s1, A1, m1, k1, rfl, hf1, Y1⟩, hk2⟩
                have hKeep := since_step hHeld hk2
                have hKA := HST.out _ _ hKA hk2
                have L1 := Y1.l64 HQ64.out
                go_wp2_with fail
                refine hK.out _ _ (by (try dsimp only); exact hKeep) (fun hHeld => ?_)
                clear hK K hKeep
                try simp only [Act.put, List.setIfInBounds_toArray, List.set_cons_zero, List.set_cons_succ]
                refine wpAnyH_ready (rs := [5]) (by kernel_rfl) (by simp) ?_
                refine AllReadyH.cons (o := { dst := some 29, op := _, type := _, pos := _, after := _, guard := _ }) rfl (fun K hK => ?_) AllReadyH.nil
                have hHd := hHeld
                have g2 := HG.out _ hHd
                obtain ⟨g0, g1, z0, z1⟩ := HGOT.out _ hKA
                have hKeep := hHeld
                go_simp
                refine hK.out _ _ (by (try dsimp only); exact hKeep) (fun hHeld => ?_)
                clear hK K hKeep
                try simp only [Act.put, List.setIfInBounds_toArray, List.set_cons_zero, List.set_cons_succ]
                refine wpAnyH_ready (rs := [14]) (by kernel_rfl) (by simp) ?_
                refine AllReadyH.cons (o := { dst := some 38, op := _, type := _, pos := _, after := _, guard := _ }) rfl (fun K hK => ?_) AllReadyH.nil
                go_simp
                have hX6 := HX6.out _ hKA
                have L6 := hX6.l128 HF128.out
                have hlu := (HBE.out _ hKA).2
                refine (badd' (by omega) (by omega) hX6 Y1).mono ?_
                rintro e u3 ⟨⟨s2, A2, m2, k2, rfl, hf2, Y2⟩, hk3⟩
                have hKeep := since_step hHeld hk3
                have hKA := HST.out _ _ hKA hk3
                go_wp2_with fail
                refine hK.out _ _ (by (try dsimp only); exact hKeep) (fun hHeld => ?_)
                clear hK K hKeep
                try simp only [Act.put, List.setIfInBounds_toArray, List.set_cons_zero, List.set_cons_succ]
                refine wpAnyH_take (i := 15) (oi := { dst := some 39, op := _, type := _, pos := _, after := _, guard := _ }) (v := ?_) rfl (by kernel_rfl) (by kernel_rfl) (by kernel_rfl) (fun _ _ _ h => h) (Or.inl ⟨by rfl, ?_⟩) hHeld ?_
                rotate_left
                · (intro w hSw; have g2 := HG.out _ hSw; go_simp <;> with_reducible rfl)
                try simp only [Act.put, List.setIfInBounds_toArray, List.set_cons_zero, List.set_cons_succ]
                refine wpAnyH_ready (rs := [16]) (by kernel_rfl) (by simp) ?_
                refine AllReadyH.cons (o := { dst := none, op := _, type := _, pos := _, after := _, guard := _ }) rfl (fun K hK => ?_) AllReadyH.nil
                have hHd := hHeld
                have g2 := HG.out _ hHd
                obtain ⟨g0, g1, z0, z1⟩ := HGOT.out _ hKA
                have hF : Fr (w.heap.size + 1) A2 m2 := hf2.le (by omega) (Nat.le_refl _)
                have hCN := HSET2.out _ s2 A2 m2 k2 hKA Y2 hF
                have hKeep := Below.setCell (Below.setCell hHeld (p := ⟨w.heap.size, k * 2, none⟩) (Nat.le_refl _) (.bool s2)) (p := ⟨w.heap.size, k * 2 + 1, none⟩) (Nat.le_refl _) (.slice A2 m2 k2)
                skip
                go_simp
                refine hK.out _ _ (by (try dsimp only); exact hKeep) (fun hHeld => ?_)
                clear hK K hKeep
                try simp only [Act.put, List.setIfInBounds_toArray, List.set_cons_zero, List.set_cons_succ]
                refine wpAnyH_done (by kernel_rfl) ?_ _
                generalize hFW : ((u3.setCell ⟨w.heap.size, k * 2, none⟩ (.bool s2)).setCell ⟨w.heap.size, k * 2 + 1, none⟩ (.slice A2 m2 k2)) = FW at *
                have hA2 := HKC.out _ _ hCN
                clear hFW hCN
                go_wp2_with fail
                go_roundw
                case rel => exact ⟨k + 1, B2.set k ⟨s2, A2, m2, k2⟩, by omega, by go_num, HB8.out _, hA2⟩
                case measure => simp [intOf]; omega
          · obtain rfl : k = 8 := by omega
            have hK2 : KeepA w B2 (sumG S (i + 1)) wr := ⟨hA.bel, hA.own, hA.num.congr (fun j hj => by rw [HSU.out, if_pos (by omega)]), hA.lt⟩
            clear hA
            go_wp2_with fail
            go_roundw
            case rel => exact ⟨i + 1, B2, by omega, by go_num, HN1.out, hB8, hK2⟩
            case measure => simp [intOf]; omega
    · obtain rfl : i = S.length := by omega
      have HE := Lib.hid (HEND.out (fun j hj => hno j hj hj))
      have hOF := rof_any (some ⟨w.heap.size, 0, none⟩) 8 (w.heap.size + 1) B ((List.range 8).map fun j => sumG S S.length j) wr (by omega) (by rw [hB8]; rfl)
        (fun z hz => by obtain ⟨j, _, rfl⟩ := List.mem_map.1 hz; exact H128.out _ j (Nat.le_refl _)) (Sl.of_own hA.own)
        (hA.num.congr fun j hj => by
          have h8 : j < 8 := by omega
          rw [List.getD_eq_getElem?_getD, List.getElem?_map, List.getElem?_range h8]; rfl)
      rw [hB8] at hOF
      have HOF := Lib.hid hOF
      have hBel := hA.bel
      have hlt9 := hA.lt
      generalize ofR ((List.range 8).map fun j => sumG S S.length j) = RO at *
      clear hno hOF hA
      go_wp2_with fail
      refine HOF.out.mono ?_
      rintro e w2 ⟨⟨A2, c2, rfl, own2⟩, hb⟩
      have hB2 := since_step hBel hb
      have own2 := own_base own2 (base' := w.heap.size) (by omega)
      go_wp2_with fail
      go_ret2
      rw [HE.out]
      exact ⟨⟨A2, c2, rfl, own2⟩, hB2⟩
end Go.Proofs.Ytldnponbkhgijaa
end
section
namespace Go.Proofs.Ytldnponbkhgijaa
open Go.ChangeShapes Go.WideShapes Go.ChangeAt Go.RowKit
set_option linter.unusedVariables false
set_option linter.unusedSimpArgs false

theorem getG_cons (x : Lg) (r : List Lg) (i : Int) : getG (x :: r) i = if x.ins = i then x.qty else getG r i := by
  unfold getG pickL
  rw [List.find?_cons]
  by_cases h : x.ins = i
  · rw [if_pos h, show inG i x = true by simp [inG, h]]; rfl
  · rw [if_neg h, show inG i x = false by simp [inG, h]]
theorem getG_none {l : List Lg} {i : Int} (h : ∀ x ∈ l, x.ins ≠ i) : getG l i = 0 := by
  induction l with
  | nil => rfl
  | cons x r ih => rw [getG_cons, if_neg (h x (by simp)), ih (fun y hy => h y (by simp [hy]))]
abbrev SoG (l : List Lg) : Prop := l.Pairwise (fun a b => a.ins < b.ins)
theorem risingG : ∀ l : List Lg, risingL ahG l = true ↔ SoG l
  | [] => by simp [risingL]
  | [a] => by simp [risingL]
  | a :: b :: r => by
    have ih := risingG (b :: r)
    simp only [risingL, Bool.and_eq_true, ih, ahG, decide_eq_true_eq]
    constructor
    · rintro ⟨h1, h2⟩
      refine List.Pairwise.cons ?_ h2
      intro c hc
      rcases List.mem_cons.1 hc with rfl | hc
      · exact h1
      · have := List.rel_of_pairwise_cons h2 hc
        omega
    · intro h
      exact ⟨List.rel_of_pairwise_cons h (by simp), h.of_cons⟩
theorem isG_iff (l : List Lg) : isG l = true ↔ (∀ x ∈ l, 1 ≤ x.ins ∧ x.ins ≤ 8 ∧ x.qty ≠ 0) ∧ SoG l := by
  unfold isG
  rw [Bool.and_eq_true, List.all_eq_true, risingG]
  refine and_congr_left fun _ => ⟨fun h x hx => ?_, fun h x hx => ?_⟩
  · have := h x hx
    unfold okG at this
    simp only [Bool.and_eq_true, decide_eq_true_eq, Bool.not_eq_true', beq_eq_false_iff_ne] at this
    exact ⟨this.1.1, this.1.2, this.2⟩
  · obtain ⟨h1, h2, h3⟩ := h x hx
    unfold okG
    simp [h1, h2, h3]
theorem legs_back : ∀ (n : Nat) (i : Int) (l : List Lg), SoG l → (∀ x ∈ l, i ≤ x.ins ∧ x.ins < i + n ∧ x.qty ≠ 0) → legsF i ((List.range n).map fun j : Nat => getG l (i + (j : Int))) = l
  | 0, i, [], _, _ => rfl
  | 0, i, x :: r, _, h => by have := h x (by simp); omega
  | n + 1, i, l, hs, h => by
    rw [List.range_succ_eq_map, List.map_cons, List.map_map, legsF]
    have e0 : i + ((0 : Nat) : Int) = i := by simp
    rw [e0]
    have ef : ∀ m : List Lg, ((fun j : Nat => getG m (i + (j : Int))) ∘ Nat.succ) = fun j : Nat => getG m (i + 1 + (j : Int)) := fun m => by
      funext j
      simp only [Function.comp]
      congr 1
      omega
    rw [ef]
    cases l with
    | nil =>
      rw [show getG [] i = 0 from rfl, if_pos rfl, legs_back n (i + 1) [] hs (fun x hx => by cases hx)]; rfl
    | cons x r =>
      obtain ⟨h1, h2, h3⟩ := h x (by simp)
      by_cases hx : x.ins = i
      · rw [getG_cons, if_pos hx, if_neg h3]
        have e2 : (List.range n).map (fun j : Nat => getG (x :: r) (i + 1 + (j : Int))) = (List.range n).map fun j : Nat => getG r (i + 1 + (j : Int)) := by
          refine List.map_congr_left fun j _ => ?_
          rw [getG_cons, if_neg (by omega)]
        rw [e2, legs_back n (i + 1) r hs.of_cons fun y hy => ?_]
        · obtain ⟨a, b⟩ := x
          simp only at hx
          subst hx
          rfl
        · have := List.rel_of_pairwise_cons hs hy
          have := h y (by simp [hy])
          omega
      · rw [getG_none (l := x :: r) (i := i) (fun y hy => by
          rcases List.mem_cons.1 hy with rfl | hy
          · exact hx
          · have := List.rel_of_pairwise_cons hs hy; omega), if_pos rfl, List.nil_append]
        refine legs_back n (i + 1) (x :: r) hs fun y hy => ?_
        have := h y hy
        rcases List.mem_cons.1 hy with rfl | hy2
        · omega
        · have := List.rel_of_pairwise_cons hs hy2
          omega
def negG (l : List Lg) : List Lg := l.map fun x => ⟨x.ins, -x.qty⟩
theorem getG_neg (l : List Lg) (i : Int) : getG (negG l) i = -getG l i := by
  induction l with
  | nil => rfl
  | cons x r ih =>
    rw [show negG (x :: r) = ⟨x.ins, -x.qty⟩ :: negG r from rfl, getG_cons, getG_cons, ih]
    split <;> simp
theorem negG_so {l : List Lg} (h : SoG l) : SoG (negG l) := by
  unfold negG
  exact List.pairwise_map.2 h
theorem ofR_getG {l : List Lg} (hs : SoG l) (h : ∀ x ∈ l, 1 ≤ x.ins ∧ x.ins ≤ 8 ∧ x.qty ≠ 0) (h6 : ∀ x ∈ l, In64 x.qty) : ofR ((List.range 8).map fun j : Nat => getG l ((j : Int) + 1)) = (0, l) := by
  have e := legs_back 8 1 l hs (fun x hx => by have := h x hx; omega)
  have e2 : ((List.range 8).map fun j : Nat => getG l ((j : Int) + 1)) = (List.range 8).map fun j : Nat => getG l (1 + (j : Int)) := List.map_congr_left fun j _ => by rw [Int.add_comm]
  rw [e2]
  unfold ofR
  rw [if_pos, e]
  intro q hq
  obtain ⟨j, _, rfl⟩ := List.mem_map.1 hq
  exact getG_in h6 _
theorem getG_mem {l : List Lg} (hs : SoG l) {x : Lg} (hx : x ∈ l) : getG l x.ins = x.qty := by
  induction l with
  | nil => cases hx
  | cons y r ih =>
    rw [getG_cons]
    rcases List.mem_cons.1 hx with rfl | hx
    · rw [if_pos rfl]
    · have := List.rel_of_pairwise_cons hs hx
      rw [if_neg (by omega), ih hs.of_cons hx]
open Classical in
noncomputable def negR (l : List Lg) : Int × List Lg := if isG l = false then (3, []) else if ∀ x ∈ l, In64 (-x.qty) then (0, negG l) else (7, [])
theorem negR_of {l : List Lg} (h : isG l = true) : ofR ((List.range 8).map fun j : Nat => -getG l ((j : Int) + 1)) = negR l := by
  obtain ⟨h1, h2⟩ := (isG_iff l).1 h
  unfold negR
  rw [if_neg (by rw [h]; simp)]
  by_cases h6 : ∀ x ∈ l, In64 (-x.qty)
  · rw [if_pos h6]
    have e := ofR_getG (negG_so h2) (fun x hx => by
      obtain ⟨y, hy, rfl⟩ := List.mem_map.1 hx
      have := h1 y hy
      simp only
      omega) (fun x hx => by
      obtain ⟨y, hy, rfl⟩ := List.mem_map.1 hx
      exact h6 y hy)
    simp only [getG_neg] at e
    exact e
  · rw [if_neg h6]
    unfold ofR
    rw [if_neg]
    intro hq
    refine h6 fun x hx => ?_
    obtain ⟨a1, a2, _⟩ := h1 x hx
    have := hq (-getG l (((x.ins - 1).toNat : Int) + 1)) (List.mem_map.2 ⟨(x.ins - 1).toNat, List.mem_range.2 (by omega), rfl⟩)
    rw [show (((x.ins - 1).toNat : Int) + 1) = x.ins by omega, getG_mem h2 hx] at this
    exact this
set_option maxHeartbeats 8000000 in
set_option maxRecDepth 100000 in
theorem rvneg_any (A : Option Addr) (cap : Nat) (l : List Lg) (w : World) (hl : l.length ≤ 900000) (h6 : ∀ y ∈ l, In64 y.qty) (hs : Sl w A (rc Lg.cells l)) :
    Calls Try.prog 102 #[.slice A l.length cap] w fun e w' => GRes w.heap.size w' e (negR l) ∧ Below w.heap.size w w' := by
  have HIS := rvis_any A cap l w (by omega) hs
  cases hi : isG l with
  | false =>
    have HE : Hid (negR l = (3, [])) := Lib.hid (by unfold negR; rw [if_pos hi])
    rw [hi] at HIS
    clear hi
    go_enter Try.func102, Try.ntmps102
    go_wp2_with fail
    refine HIS.mono ?_
    rintro e w1 ⟨rfl, hb⟩
    go_wp2_with fail
    go_ret2
    rw [HE.out]
    exact ⟨GRes.nil _ _ _, hb⟩
  | true =>
    have HE := Lib.hid (negR_of hi)
    have HG6 : Hid (∀ i, In64 (getG l i)) := Lib.hid fun i => getG_in h6 i
    have HGT := Lib.hid (fun i V h => rvget_any A cap l i V (by omega) h)
    rw [hi] at HIS
    clear hi h6
    go_enter Try.func102, Try.ntmps102
    go_wp2_with fail
    refine HIS.mono ?_
    rintro e w0 ⟨rfl, hb0⟩
    have hs0 := hs.below hb0
    have hz0 := hb0.size
    clear HIS
    go_wp2_with (first | (at_make; refine wpList_mk8 rfl rfl ?_; intro w1 own1 hb1) | fail)
    have hK0 : KeepA w0 (List.replicate 8 Bg.zero) (fun j => if j < 0 then -getG l ((j : Int) + 1) else 0) w1 := ⟨hb1, own1, (BgF.zero w1 _).congr fun j hj => by simp, (own_slice_g own1).2.1⟩
    clear own1 hb1
    go_loopw [5] (fun kv wr => ∃ (k : Nat) (B : List Bg), k ≤ 8 ∧ kv = .int .i64 k ∧ B.length = 8 ∧ KeepA w0 B (fun j => if j < k then -getG l ((j : Int) + 1) else 0) wr) (fun kv _ => 8 - (intOf kv).toNat)
    case atStart => exact ⟨0, _, by omega, rfl, rfl, hK0⟩
    case round =>
      obtain ⟨k, B, hk, rfl, hB8, hA⟩ := hrel
      clear hK0
      by_cases hlt : k < 8
      · have hlk : (k : Int) < 8 := by omega
        have hgk : (0 : Int) ≤ (k : Int) := by omega
        have hk8 : k < B.length := by omega
        have hw1 : IntKind.i64.wrap ((k : Int) + 1) = (k : Int) + 1 := IntWalk.i64_in _ (by omega)
        have hq6 := HG6.out ((k : Int) + 1)
        have HGK := Lib.hid (HGT.out ((k : Int) + 1))
        obtain ⟨q, hqq⟩ : ∃ q, getG l ((k : Int) + 1) = q := ⟨_, rfl⟩
        have HEE : Hid (∀ j, j < B.length → (if j = k then -q else if j < k then -getG l ((j : Int) + 1) else 0) = if j < k + 1 then -getG l ((j : Int) + 1) else 0) := Lib.hid fun j hj => by
          by_cases e : j = k
          · subst e; rw [if_pos rfl, if_pos (by omega), hqq]
          · rw [if_neg e]
            by_cases e2 : j < k
            · rw [if_pos e2, if_pos (by omega)]
            · rw [if_neg e2, if_neg (by omega)]
        rw [hqq] at hq6 HGK
        have HOF := Lib.hid (fun V => bof_any q V hq6)
        have HQ64 := Lib.hid hq6
        have HB8 : Hid (∀ x, (B.set k x).length = 8) := Lib.hid fun x => by rw [List.length_set]; exact hB8
        clear hqq hq6
        go_wp2_with fail
        refine (HGK.out _ (hs0.below hA.bel)).mono ?_
        rintro e u1 ⟨rfl, hk1⟩
        have hA := hA.step hk1
        clear hk1
        go_wp2_with fail
        refine (HOF.out _).mono ?_
        rintro e u2 ⟨⟨s1, A1, m1, k1, rfl, hf1, Y1⟩, hk2⟩
        have hlu := hA.lt
        have hA := hA.step hk2
        have L1 := Y1.l64 HQ64.out
        clear hk2
        obtain rfl := Y1.neg_iff
        go_wp2_with fail
        have HNG := bneg_any q A1 m1 k1 u2 (by omega) Y1
        obtain ⟨sg, hsg⟩ : ∃ sg, decide (-q < 0) = sg := ⟨_, rfl⟩
        rw [hsg] at HNG
        clear hsg
        refine HNG.mono ?_
        rintro e u3 ⟨⟨n3, c3, rfl, hn3, Y3⟩, hk3⟩
        have hA := hA.step hk3
        have hF : Fr (w0.heap.size + 1) A1 n3 := hf1.le (by omega) hn3
        obtain ⟨g0, g1, hfz⟩ := hA.got hk8
        have z0 := hfz (k * 2)
        have z1 := hfz (k * 2 + 1)
        have hA2 := hA.set hk8 (x := ⟨sg, A1, n3, c3⟩) Y3 hF HEE.out
        simp only at hA2
        clear hk3 hfz hA
        go_wp2_with fail
        generalize hFW : ((u3.setCell ⟨w0.heap.size, k * 2, none⟩ (.bool (sg))).setCell ⟨w0.heap.size, k * 2 + 1, none⟩ (.slice A1 n3 c3)) = FW at *
        clear hFW
        go_roundw
        case rel => exact ⟨k + 1, B.set k ⟨sg, A1, n3, c3⟩, by omega, by go_num, HB8.out _, hA2⟩
        case measure => simp [intOf]; omega
      · obtain rfl : k = 8 := by omega
        have hOF := rof_any (some ⟨w0.heap.size, 0, none⟩) 8 (w0.heap.size + 1) B ((List.range 8).map fun j : Nat => -getG l ((j : Int) + 1)) wr (by omega) (by rw [hB8]; rfl)
          (fun z hz => by obtain ⟨j, _, rfl⟩ := List.mem_map.1 hz; have := HG6.out ((j : Int) + 1); unfold In64 at this; unfold In128; omega) (Sl.of_own hA.own)
          (hA.num.congr fun j hj => by
            have h8 : j < 8 := by omega
            rw [List.getD_eq_getElem?_getD, List.getElem?_map, List.getElem?_range h8, if_pos h8]; rfl)
        rw [hB8, HE.out] at hOF
        have HOF := Lib.hid hOF
        have hBel := hA.bel
        have hlt9 := hA.lt
        obtain ⟨RO, hRO⟩ : ∃ RO, negR l = RO := ⟨_, rfl⟩
        rw [hRO] at HOF
        have HE2 := Lib.hid hRO
        clear hOF hA HE hRO
        go_wp2_with fail
        refine HOF.out.mono ?_
        rintro e w2 ⟨⟨A2, c2, rfl, own2⟩, hb⟩
        have hB2 := since_step hBel hb
        have own2 := own_base own2 (base' := w.heap.size) (by omega)
        go_wp2_with fail
        go_ret2
        rw [HE2.out]
        exact ⟨⟨A2, c2, rfl, own2⟩, hb0.trans (hB2.mono hz0)⟩
set_option maxHeartbeats 8000000 in
set_option maxRecDepth 100000 in
theorem vneg_any (A : Option Addr) (cap : Nat) (l : List Lg) (w : World) (hl : l.length ≤ 900000) (h6 : ∀ y ∈ l, In64 y.qty) (hs : Sl w A (rc Lg.cells l)) :
    Calls Try.prog 101 #[.slice A l.length cap] w fun e w' => GRes w.heap.size w' e (negR l) ∧ Below w.heap.size w w' := by
  have HIS := vis_any A cap l w (by omega) hs
  cases hi : isG l with
  | false =>
    have HE : Hid (negR l = (3, [])) := Lib.hid (by unfold negR; rw [if_pos hi])
    rw [hi] at HIS
    clear hi
    go_enter Try.func101, Try.ntmps101
    go_wp2_with fail
    refine HIS.mono ?_
    rintro e w1 ⟨rfl, hb⟩
    go_wp2_with fail
    go_ret2
    rw [HE.out]
    exact ⟨GRes.nil _ _ _, hb⟩
  | true =>
    have HBAD : Hid (∀ k, (h : k < l.length) → ¬ In64 (-l[k].qty) → negR l = (7, [])) := Lib.hid fun k h hb => by
      unfold negR
      rw [if_neg (by rw [hi]; simp), if_neg (fun h2 => hb (h2 _ (List.getElem_mem h)))]
    have HEND : Hid ((∀ j, (hj : j < l.length) → In64 (-l[j].qty)) → negR l = (0, negG l)) := Lib.hid fun h => by
      unfold negR
      rw [if_neg (by rw [hi]; simp), if_pos fun x hx => by obtain ⟨j, hj, rfl⟩ := List.getElem_of_mem hx; exact h j hj]
    have HQ := Lib.hid h6
    generalize negR l = RR at *
    rw [hi] at HIS
    clear hi h6
    go_enter Try.func101, Try.ntmps101
    go_wp2_with fail
    refine HIS.mono ?_
    rintro e w0 ⟨rfl, hb0⟩
    have hs0 := hs.below hb0
    have hz0 := hb0.size
    clear HIS
    go_wp2_with (first | (at_make; refine wpList_mk rfl (.const (.int .i64 0)) (.tmp 13) rfl ELg l.length rfl rfl rfl (by omega) (by unfold maxLen; omega) (Nat.le_refl _) ?_; intro w1 own1 hb1) | fail)
    go_loopw [4, 17] (fun ov i wr => ∃ (k : Nat) (A2 : Option Addr) (c2 : Nat), k ≤ l.length ∧ i = .int .i64 k ∧ ov = .slice A2 (negG (l.take k)).length c2 ∧ wr.ownsRow w0.heap.size 138 2 (.slice A2 (negG (l.take k)).length c2) (negG (l.take k)).length (rc Lg.cells (negG (l.take k))) ∧ (∀ j, (hj : j < l.length) → j < k → In64 (-l[j].qty)) ∧ Below w0.heap.size w0 wr) (fun _ i _ => l.length - (intOf i).toNat)
    case atStart => exact ⟨0, _, _, by omega, rfl, rfl, own1, fun j hj h => absurd h (by omega), hb1⟩
    case round =>
      clear own1 hb1
      obtain ⟨k, A2, c2, hk, rfl, rfl, own2, hin, hB⟩ := hrel
      by_cases hlt : k < l.length
      · obtain ⟨b, o, rfl, hbw, hg⟩ := (hs0.below hB).lg hlt
        have hlk : (k : Int) < (l.length : Int) := by omega
        have hx6 := HQ.out _ (List.getElem_mem hlt)
        have HBK := Lib.hid (HBAD.out k hlt)
        have HNX : Hid (In64 (-l[k].qty) → ∀ j, (hj : j < l.length) → j < k + 1 → In64 (-l[j].qty)) := Lib.hid (fun h j hj hjk => by
          rcases Nat.lt_or_ge j k with h' | h'
          · exact hin j hj h'
          · obtain rfl : j = k := by omega
            exact h)
        have HT : Hid (negG (l.take (k + 1)) = negG (l.take k) ++ [⟨l[k].ins, -l[k].qty⟩]) := Lib.hid (by unfold negG; rw [List.take_succ_eq_append_getElem hlt, List.map_append]; rfl)
        have hRl : (negG (l.take k)).length ≤ 900000 := by unfold negG; rw [List.length_map, List.length_take]; omega
        have hA := since_alloc hB (.cells l[k].cells.toArray 138)
        obtain ⟨v, hv⟩ : ∃ v, l[k] = v := ⟨_, rfl⟩
        obtain ⟨R, hR⟩ : ∃ R, negG (l.take k) = R := ⟨_, rfl⟩
        rw [hv] at hg hx6 HBK HNX HT hA
        rw [hR] at own2 HT hRl ⊢
        obtain ⟨va, vq⟩ := v
        obtain ⟨g0, g1⟩ := hg
        unfold Lg.cells at hA
        simp only at g0 g1 hx6 HBK HNX HT hA
        have HSB := Lib.hid (fun V => fsub_any 0 vq (by unfold In64; omega) hx6 V)
        have e0 : (0 : Int) - vq = -vq := by omega
        rw [e0] at HSB
        have hZ := Bk.new wr #[.int .i64 va, .int .i64 vq] 138
        have own2 := own2.alloc (.cells #[.int .i64 va, .int .i64 vq] 138)
        clear hin hv hR e0 hx6 hbw
        by_cases h64 : In64 (-vq)
        · have h1 : fV (-vq) = -vq := if_pos h64
          have h2 : fE (-vq) = 0 := if_pos h64
          rw [h1, h2] at HSB
          have HN := Lib.hid (HNX.out h64)
          clear h1 h2 h64 HBK HNX
          go_wp2_with fail
          refine (HSB.out _).mono ?_
          rintro e w2 ⟨rfl, hb⟩
          have hB2 := since_step hA hb
          have hZ := hZ.below hb
          have own2 := own_below own2 hb
          have hsz := hB2.size
          obtain ⟨lb, cb⟩ := id hZ
          have q0 := cb 0
          have q1 := cb 1
          simp at q0 q1
          clear cb hb g0 g1
          go_wp2_with (first
            | (at_builtin; refine wpList_app rfl (.tmp 30) (.tmp 35) rfl ELg rfl rfl (own2.alloc _) (m := 1) (news := (⟨va, -vq⟩ : Lg).cells) rfl (Sl.new_ _ _ _) (Lg.one _) (by unfold maxLen; omega) (by omega) (by simp only [World.size_alloc]; omega) ?_; intro A3 c3 w3 own3 hg3 hb3)
            | fail)
          have hB3 := (since_alloc hB2 (.cells #[.int .i64 va, .int .i64 (-vq)] 138)).trans hb3
          go_roundw
          case rel => exact ⟨k + 1, A3, c3, by omega, by go_num, by rw [HT.out, List.length_append]; rfl, by rw [HT.out, List.length_append, rc_append]; simpa [rc] using own3, HN.out, hB3⟩
          case measure => simp [intOf]; omega
        · have h1 : fV (-vq) = 0 := if_neg h64
          have h2 : fE (-vq) = 7 := if_neg h64
          rw [h1, h2] at HSB
          have HE := Lib.hid (HBK.out h64)
          clear h1 h2 h64 HBK HNX
          go_wp2_with fail
          refine (HSB.out _).mono ?_
          rintro e w2 ⟨rfl, hb⟩
          have hB2 := since_step hA hb
          go_wp2_with fail
          go_ret2
          rw [HE.out]
          exact ⟨GRes.nil _ _ _, hb0.trans (hB2.mono hz0)⟩
      · obtain rfl : k = l.length := by omega
        have HE := Lib.hid (HEND.out fun j hj => hin j hj hj)
        rw [List.take_length] at own2 ⊢
        clear hin
        go_wp2_with fail
        go_ret2
        rw [HE.out]
        exact ⟨⟨A2, c2, rfl, own_base own2 hz0⟩, hb0.trans (hB.mono hz0)⟩
end Go.Proofs.Ytldnponbkhgijaa
end
section
namespace Go.Proofs.Ytldnponbkhgijaa
open Go.ChangeShapes Go.WideShapes Go.ChangeAt Go.RowKit
set_option linter.unusedVariables false
set_option linter.unusedSimpArgs false

theorem EI64 : Elem Try.prog 151 2 1 8 := Elem.mk' (z := .int .i64 0) (by kernel_rfl) (by kernel_rfl) (by decide) (by decide)
end Go.Proofs.Ytldnponbkhgijaa
end
section
namespace Go.Proofs.Ytldnponbkhgijaa
open Go.ChangeShapes Go.WideShapes Go.ChangeAt Go.RowKit
set_option linter.unusedVariables false
set_option linter.unusedSimpArgs false

section
variable {P : Program} {w : World}
theorem run_app2 {t ty e : TypeId} {size bytes : Nat} (E : Elem P t e size bytes) {base n m c d : Nat} {A B : Option Addr} {xs news : List Value}
    (hown : w.ownsRow base e size (.slice A n c) n xs) (hl : news.length = m * size) (hm : 0 < m) (hr : Sl w B news) (h1 : ∀ u ∈ news, u.oneCell' = true)
    (h63 : n + m ≤ maxLen) (hb : (n + m) * bytes ≤ 140737488355328) (hbase : base ≤ w.heap.size) :
    ∃ A' c' w', (Builtin.append_ #[t, t] ty #[.slice A n c, .slice B m d]).run P w = .ok (.slice A' (n + m) c') w' ∧ w'.ownsRow base e size (.slice A' (n + m) c') (n + m) (xs ++ news) ∧
      w.grownBy w' (Value.slice A n c).ownBlock ∧ ((Value.slice A' (n + m) c').ownBlock = (Value.slice A n c).ownBlock ∨ (Value.slice A' (n + m) c').ownBlock = some w.heap.size) ∧ Below base w w' := by
  obtain ⟨i, z, hi, hz, hsize, hby, hzs⟩ := E.info
  have hne : news ≠ [] := by
    intro h0
    rw [h0, List.length_nil] at hl
    rcases Nat.mul_eq_zero.1 hl.symm with h | h
    · omega
    · have := E.pos; omega
  obtain ⟨b, o, rfl, hc⟩ := hr hne
  obtain ⟨v', w', hrun, h2, h3, _, h5⟩ := run_append_own_at (P := P) w base t ty e i z size bytes E.und hi hz hsize hby hzs E.pos _ n xs hown ⟨b, o, none⟩ m d news hl
    (fun j u hu => by rw [addr_add]; exact hc j u hu) h1 h63 hb hbase
  obtain ⟨A', c', rfl⟩ := own_form h2
  exact ⟨A', c', w', hrun, h2, h3, h5, below_of_grown h3 hbase (own_ge hown)⟩
end
def Apart (v u : Value) : Prop := ∀ g, v.ownBlock = some g → u.ownBlock ≠ some g
theorem Apart.symm {v u : Value} (h : Apart v u) : Apart u v := fun g h1 h2 => h g h2 h1
theorem Apart.none (u : Value) : Apart (.slice none 0 0) u := fun g h => by simp [Value.ownBlock] at h
theorem Apart.grow {w : World} {base e size n : Nat} {v v' u : Value} {xs : List Value} (h : Apart v u) (hu : w.ownsRow base e size u n xs) (hv : v'.ownBlock = v.ownBlock ∨ v'.ownBlock = some w.heap.size) : Apart v' u := by
  intro g h1 h2
  rcases hv with hv | hv
  · exact h g (hv ▸ h1) h2
  · rw [hv] at h1
    injection h1 with h1
    subst h1
    rcases hu.2 with ⟨rfl, _⟩ | ⟨g', cap, cur, rfl, _, hh, _⟩
    · simp [Value.ownBlock] at h2
    · simp only [Value.ownBlock, Option.some.injEq] at h2
      subst h2
      rw [Array.getElem?_eq_none (Nat.le_refl _)] at hh
      cases hh
theorem own_apart {w w' : World} {base e size n : Nat} {v u : Value} {xs : List Value} (hu : w.ownsRow base e size u n xs) (h : Apart v u) (hg : w.grownBy w' v.ownBlock) : w'.ownsRow base e size u n xs := by
  refine hu.kept hg ?_
  rcases hu.2 with ⟨rfl, _⟩ | ⟨g, cap, cur, rfl, _, hh, _⟩
  · exact .inl rfl
  · right
    intro e
    exact h g e.symm (by simp [Value.ownBlock])
section
variable {P : Program} {w : World}
theorem step_app2 {ops : Array Oper} {o : Oper} {a : Act} {K : Act → World → Prop} {Q : Exit → Act → World → Prop} {Z : Prop} (hgd : o.guard = none) (s x : Operand) {t e : TypeId} {size bytes : Nat}
    (ho : o.op = .call { callee := .builtin .append, args := #[s, x], argTypes := #[t, t] }) (E : Elem P t e size bytes) {base n m c d : Nat} {A B : Option Addr} {xs news : List Value}
    (hs : a.eval s = .slice A n c) (hx : a.eval x = .slice B m d)
    (hown : w.ownsRow base e size (.slice A n c) n xs) (hl : news.length = m * size) (hm : 0 < m) (hr : Sl w B news) (h1 : ∀ u ∈ news, u.oneCell' = true)
    (h63 : n + m ≤ maxLen) (hb : (n + m) * bytes ≤ 140737488355328) (hbase : base ≤ w.heap.size)
    (h : ∀ A' c' w', w'.ownsRow base e size (.slice A' (n + m) c') (n + m) (xs ++ news) → w.grownBy w' (Value.slice A n c).ownBlock → ((Value.slice A' (n + m) c').ownBlock = (Value.slice A n c).ownBlock ∨ (Value.slice A' (n + m) c').ownBlock = some w.heap.size) → Below base w w' → K (a.put o.dst (.slice A' (n + m) c')) w') :
    if Region.wanted o (yielded ops a.tmps) = true then Oper.wp P o a w K Q else Z := by
  have hw : Region.wanted o (yielded ops a.tmps) = true := by simp [Region.wanted, hgd]
  rw [if_pos hw]
  obtain ⟨A', c', w', hrun, h2, h3, h5, h4⟩ := run_app2 (P := P) (w := w) (ty := o.type) E (d := d) hown hl hm hr h1 h63 hb hbase
  unfold Oper.wp execOp
  simp only [ho, resolve, invoke, builtin, Sem.run_bind, Sem.run_pure, Result.andThen_ok, List.map_toArray, List.map_cons, List.map_nil, hs, hx, hrun]
  exact h A' c' w' h2 h3 h5 h4
end
theorem own_far1 {w : World} {base e size n : Nat} {v : Value} {xs : List Value} (h : w.ownsRow base e size v n xs) {p : Addr} (hp : v.ownBlock ≠ some p.block) (u : Value) : (w.setCell p u).ownsRow base e size v n xs := by
  obtain ⟨h1, h2⟩ := h
  refine ⟨h1, ?_⟩
  rcases h2 with h2 | ⟨g, cap, cur, hv, hg, hh, hr⟩
  · exact .inl h2
  · refine .inr ⟨g, cap, cur, hv, hg, ?_, hr⟩
    rw [Below.heap_setCell]
    · exact hh
    · intro e
      subst hv
      subst e
      exact hp rfl
theorem own_type {w : World} {base e size n g t : Nat} {v : Value} {xs : List Value} {cs : Array Value} {fr : Nat × Nat} (h : w.ownsRow base e size v n xs) (hg : w.heap[g]? = some (.cells cs t fr)) (hne : e ≠ t) : v.ownBlock ≠ some g := by
  rcases h.2 with ⟨rfl, _⟩ | ⟨g', cap, cur, rfl, _, hh, _⟩
  · simp [Value.ownBlock]
  · simp only [Value.ownBlock, ne_eq, Option.some.injEq]
    intro e1
    subst e1
    rw [hg] at hh
    injection hh with hh
    injection hh with _ e2
    exact hne e2.symm
theorem Bk.grown {w w' : World} {b : Nat} {cs : Array Value} {row : Option Nat} (h : Bk w b cs) (hg : w.grownBy w' row) (hne : row ≠ some b) : Bk w' b cs := by
  have hk := hg.block b h.1 (fun e => hne e.symm)
  exact ⟨Nat.lt_of_lt_of_le h.1 hg.size, fun o => (World.cell?_of_block (a := ⟨b, o, none⟩) hk).trans (h.2 o)⟩
theorem Bk.far1 {w : World} {b : Nat} {cs : Array Value} (h : Bk w b cs) {p : Addr} (hp : p.block ≠ b) (u : Value) : Bk (w.setCell p u) b cs := by
  refine ⟨by simpa using h.1, fun o => ?_⟩
  rw [cell_set, if_neg (fun e => hp (by rw [e]))]
  exact h.2 o
end Go.Proofs.Ytldnponbkhgijaa
end
