import Derived.Test.YtmjndpkfhdoljaaGreatCm11
import Derived.Deep.DeepCutAuto
import Derived.Deep.RegionHeld3
import Derived.Test.YtmjndpkfhdoljaaGreatCm06
import Derived.Test.YtmjndpkfhdoljaaGreatCm01
set_option maxHeartbeats 16000000
set_option maxRecDepth 100000
set_option linter.unusedVariables false
set_option linter.unusedSimpArgs false
namespace Go.Proofs.YtmjndpkfhdoljaaGreat
open Go.ChangeShapes Go.WideShapes Go.ChangeAt Go.RowKit
section
theorem BigAt.l128 {w : World} {s : Bool} {A : Option Addr} {n c : Nat} {z : Int} (h : BigAt w s A n c z) (hz : In128 z) : n ≤ 128 := h.len.2 (by
  rw [show (2 : Nat) ^ 128 = 340282366920938463463374607431768211456 from by decide]
  unfold In128 at hz
  omega)
structure BX (B : Nat) (w : World) (g : Nat) (s : Bool) (A : Option Addr) (n c : Nat) (z : Int) : Prop where
  bb : BB w g s A n c
  at_ : BigAt w s A n c z
  fr : Fr B A n
  hg : g < B
section
variable {B : Nat} {w w' : World} {g : Nat} {s : Bool} {A : Option Addr} {n c : Nat} {z : Int}
theorem BX.below (h : BX B w g s A n c z) (hb : Below w.heap.size w w') : BX B w' g s A n c z := ⟨h.bb.below hb, h.at_.below hb, h.fr, h.hg⟩
theorem BX.alloc (h : BX B w g s A n c z) (o : Obj) : BX B (w.alloc o) g s A n c z := h.below ((Below.refl _ _).alloc (Nat.le_refl _) o)
theorem BX.drew (h : BX B w g s A n c z) : BX B w.drew g s A n c z := h.below ⟨rfl, rfl, rfl, Nat.le_refl _, fun _ _ => rfl⟩
theorem BX.set (h : BX B w g s A n c z) {p : Addr} (hp : p.block < B) (hne : p.block ≠ g) (v : Value) : BX B (w.setCell p v) g s A n c z :=
  ⟨h.bb.far hne v, h.at_.far (fun b o hA hn => by have := h.fr b o hA hn; omega) v, h.fr, h.hg⟩
theorem BX.put (h : BX B w g s A n c z) {s' : Bool} {A' : Option Addr} {n' c' : Nat} {z' : Int} (hz : BigAt w s' A' n' c' z') (hf : Fr B A' n') :
    BX B ((w.setCell ⟨g, 0, none⟩ (.bool s')).setCell ⟨g, 1, none⟩ (.slice A' n' c')) g s' A' n' c' z' := by
  have hg := h.hg
  refine ⟨h.bb.set2 s' A' n' c', ?_, hf, hg⟩
  refine BigAt.far (BigAt.far hz ?_ _) ?_ _
  · intro b o hA hn
    have := hf b o hA hn
    show b ≠ g
    omega
  · intro b o hA hn
    have := hf b o hA hn
    show b ≠ g
    omega
theorem BX.pos (h : BX B w g s A n c z) : BX B (w.setCell ⟨g, 0, none⟩ (.bool false)) g false A n c (z.natAbs : Int) := by
  have hg := h.hg
  refine ⟨?_, ?_, h.fr, hg⟩
  · obtain ⟨h0, h1, h2, f1, f2⟩ := h.bb
    refine ⟨by simpa using h0, ?_, ?_, by simpa using f1, by simpa using f2⟩ <;> simp [cell_set, h1, h2]
  · refine BigAt.far h.at_.abs ?_ _
    intro b o hA hn
    have := h.fr b o hA hn
    show b ≠ g
    omega
theorem BX.new (hB : w.heap.size < B) (t : TypeId) : BX B (w.alloc (.cells #[.bool false, .slice none 0 0] t)) w.heap.size false none 0 0 0 :=
  ⟨BB.new w false none 0 0 t, BigAt.zero _, (fun b o h => by cases h), hB⟩
end
end
section
def All64 (l : List Int) : Prop := ∀ x ∈ l, In64 x
theorem sum_bound (l : List Int) (h : All64 l) : -(l.length : Int) * 9223372036854775808 ≤ l.sum ∧ l.sum ≤ (l.length : Int) * 9223372036854775808 := by
  induction l with
  | nil => simp
  | cons a m ih =>
    have h1 := ih (fun x hx => h x (by simp [hx]))
    have h2 := h a (by simp)
    unfold In64 at h2
    simp only [List.length_cons, List.sum_cons]
    omega
theorem sum_in128 (l : List Int) (h : All64 l) (hl : l.length ≤ 1000000) : In128 l.sum := by
  have := sum_bound l h
  unfold In128
  omega
theorem fsum_any (A : Option Addr) (cap : Nat) (l : List Int) (w : World) (hl : l.length ≤ 1000000) (hx : All64 l) (hs : Sl w A (ints .i64 l)) :
    Calls Tryz.prog 28 #[.slice A l.length cap] w fun e w' => e = .returned (.tuple #[.int .i64 (fV l.sum), .int .i64 (fE l.sum)]) ∧ Below w.heap.size w w' := by
  obtain ⟨z1, z2, z3⟩ := zero_parts
  go_enter Tryz.func28, Tryz.ntmps28
  go_wp2
  go_loopw [11] (fun i wr => ∃ k : Nat, k ≤ l.length ∧ i = .int .i64 k ∧ T2 wr w.heap.size (hiN (l.take k).sum) (loN (l.take k).sum) ∧ Below w.heap.size w wr) (fun i _ => l.length - (intOf i).toNat)
  case atStart =>
    refine ⟨0, by omega, rfl, ?_, (Below.refl _ _).alloc (Nat.le_refl _) _⟩
    simp only [List.take_zero, List.sum_nil, z1, z2]
    exact T2.new w 0 0 _
  case round =>
    obtain ⟨k, hk, rfl, ht, hB⟩ := hrel
    by_cases hlt : k < l.length
    · obtain ⟨b, o, rfl, hzw⟩ := hs.int hlt
      have hbw : b < w.heap.size := World.block_lt_of_cell? _ _ hzw
      have hz := (hB.cell (p := ⟨b, o + k, none⟩) hbw).trans hzw
      have hbr : b < wr.heap.size := Nat.lt_of_lt_of_le hbw hB.size
      have hsum : (l.take (k + 1)).sum = (l.take k).sum + l[k] := by rw [take_snoc l k hlt, List.sum_append]; simp
      have h1 : In128 (l.take k).sum := sum_in128 _ (fun x h => hx x (List.mem_of_mem_take h)) (by simp; omega)
      have h2 : In128 (l.take (k + 1)).sum := sum_in128 _ (fun x h => hx x (List.mem_of_mem_take h)) (by simp; omega)
      have hin := hx _ (List.getElem_mem hlt)
      rw [hsum] at h2
      have HS := Lib.hid hsum
      clear hsum
      generalize l[k] = x at *
      generalize (l.take k).sum = y at *
      have HE := Lib.hid (wideE_yes h2)
      obtain ⟨a0, a1, a2, f1, f2⟩ := id ht
      have hcs := @cell_set
      have HTW := Lib.hid ht
      go_upto_region 5 with fail
      go_cut [7, 8] (fun s7 s8 wx => ∃ g : Nat, s7 = .pointer (some ⟨g, 0, none⟩) ∧ s8 = .int .i64 0 ∧ T2 wx g (hiN (y + x)) (loN (y + x)) ∧ T2 wx w.heap.size (hiN y) (loN y) ∧ g ≠ w.heap.size ∧ Below w.heap.size w wx)
      case first =>
        go_region_with (first
          | (go_at_call 66; refine (wof_any x hin _).mono ?_; rintro e w1 ⟨rfl, hb1⟩; have hT1 : T2 w1 w.heap.size (hiN y) (loN y) := (by first | exact ht.drew.below hb1 | exact (ht.drew.alloc _).below hb1); have hB1 : Below w.heap.size w w1 := (by first | exact since_step hB.drew hb1 | exact since_step (since_alloc hB.drew _) hb1); (first | have G1 : T2 w1 wr.heap.size 0 0 := (T2.new wr.drew 0 0 123).below hb1 | skip); have hz1 : wr.heap.size ≤ w1.heap.size := (by have := hb1.size; simp at this; omega); obtain ⟨b0, b1, b2, b3, b4⟩ := id hT1; clear hb1)
          | (go_at_call 65; refine (wadd_any _ 2 [y, x] _ (by simp) (by intro z hz; simp at hz; rcases hz with rfl | rfl; exact h1; exact (of_in _ hin).2.2) (by first | exact Sl.new_ _ _ _ | exact (Sl.new_ _ _ _).alloc _ | exact Sl.new1 _ _ _ _)).mono ?_; rintro e w2 ⟨rfl, hb2⟩; have hT2 : T2 w2 w.heap.size (hiN y) (loN y) := (by first | exact (hT1.alloc _).below hb2 | exact ((hT1.alloc _).alloc _).below hb2); have hB2 : Below w.heap.size w w2 := (by first | exact since_step (since_alloc hB1 _) hb2 | exact since_step (since_alloc (since_alloc hB1 _) _) hb2); (first | have G2 := (G1.alloc _).below hb2 | have G2 := ((T2.new w1 0 0 123).alloc _).below hb2 | (have G2 := (T2.new (w1.alloc (.cells #[.int .i64 (hiN y), .int .u64 (loN y), .int .i64 (hiN x), .int .u64 (loN x)] 123)) 0 0 123).below hb2; rw [World.size_alloc] at G2) | skip); (first | obtain ⟨g0, g1, g2, g3, g4⟩ := _root_.id G2 | skip); rw [show [y, x].sum = y + x from by simp, HE.out]; have hz2 : w1.heap.size < w2.heap.size := (by have := hb2.size; simp at this; omega); clear hb2))
        all_goals
          go_wp2_with fail
          go_meet
          case rel =>
            first
              | exact ⟨_, rfl, rfl, G2.set2 _ _, (hT2.far (by simp; omega) _).far (by simp; omega) _, by simp; omega, by
                  refine Below.setCell (Below.setCell hB2 ?_ _) ?_ _ <;> (simp; omega)⟩
              | exact ⟨_, rfl, rfl, T2.new _ _ _ _, hT2.alloc _, by simp; omega, since_alloc hB2 _⟩
      case rest =>
        obtain ⟨g, rfl, rfl, hG, hT, hne, hBx⟩ := hcut
        obtain ⟨g0, g1, g2, g3, g4⟩ := id hG
        obtain ⟨t0, t1, t2, t3, t4⟩ := id hT
        clear hz ht a0 a1 a2 f1 f2
        go_wp2
        go_roundw
        case rel =>
          refine ⟨k + 1, by omega, by go_num, ?_, ?_⟩
          · rw [HS.out]
            exact hT.set2 _ _
          · refine Below.setCell (Below.setCell hBx ?_ _) ?_ _ <;> simp
        case measure => simp [intOf]; omega
    · obtain rfl : k = l.length := by omega
      rw [List.take_length] at ht
      have h128 := sum_in128 l hx hl
      obtain ⟨a0, a1, a2, f1, f2⟩ := id ht
      go_wp2_with fail
      refine (int_any l.sum h128 _).mono ?_
      rintro e w1 ⟨rfl, hb1⟩
      have hB1 := since_step hB hb1
      go_wp2_with fail
      go_ret2
      exact ⟨rfl, hB1⟩
end
section
theorem in64_iff (z : Int) : inN z 63 ↔ In64 z := by rw [inN_63]; exact Iff.rfl
theorem fV_in (z : Int) : In64 (fV z) := by unfold fV; split <;> first | assumption | decide
end
section
structure Bg where
  s : Bool
  A : Option Addr
  n : Nat
  c : Nat
def Bg.cells (g : Bg) : List Value := [.bool g.s, .slice g.A g.n g.c]
def Bg.zero : Bg := ⟨false, none, 0, 0⟩
theorem Bg.len (g : Bg) : g.cells.length = 2 := rfl
theorem Bg.one (g : Bg) : ∀ u ∈ g.cells, u.oneCell' = true := by
  intro u hu
  simp only [Bg.cells, List.mem_cons, List.not_mem_nil, or_false] at hu
  rcases hu with h | h <;> subst h <;> rfl
theorem Sl.bg {w : World} {A : Option Addr} {l : List Bg} (h : Sl w A (rc Bg.cells l)) {k : Nat} (hk : k < l.length) : ∃ b o, A = some ⟨b, o, none⟩ ∧ b < w.heap.size ∧ w.cell? ⟨b, o + k * 2, none⟩ = some (.bool l[k].s) ∧ w.cell? ⟨b, o + k * 2 + 1, none⟩ = some (.slice l[k].A l[k].n l[k].c) := by
  obtain ⟨b, o, hA, hb, hc⟩ := Sl.elem (m := 2) Bg.len (by decide) h hk
  exact ⟨b, o, hA, hb, hc 0 _ rfl, hc 1 _ rfl⟩
def BgF (w : World) (g : Nat) (B : List Bg) (f : Nat → Int) : Prop := ∀ j, (h : j < B.length) → BigAt w B[j].s B[j].A B[j].n B[j].c (f j) ∧ Fr g B[j].A B[j].n
theorem BgF.below {w w' : World} {g : Nat} {B : List Bg} {f : Nat → Int} (h : BgF w g B f) (hb : Below w.heap.size w w') : BgF w' g B f := fun j hj => ⟨(h j hj).1.below hb, (h j hj).2⟩
theorem BgF.far {w : World} {g : Nat} {B : List Bg} {f : Nat → Int} (h : BgF w g B f) {p : Addr} (hp : p.block < g) (v : Value) : BgF (w.setCell p v) g B f := fun j hj => by
  obtain ⟨h1, h2⟩ := h j hj
  exact ⟨h1.far (fun b o hA hn => by have := h2 b o hA hn; omega) v, h2⟩
theorem BgF.set {w : World} {g : Nat} {B : List Bg} {f : Nat → Int} (h : BgF w g B f) {k : Nat} {x : Bg} {z : Int} (hx : BigAt w x.s x.A x.n x.c z) (hf : Fr g x.A x.n) : BgF w g (B.set k x) (fun j => if j = k then z else f j) := fun j hj => by
  simp only [List.length_set] at hj
  rw [List.getElem_set]
  by_cases e : k = j
  · subst e; simp; exact ⟨hx, hf⟩
  · rw [if_neg e]
    have e2 : ¬ j = k := fun h => e h.symm
    simp only [if_neg e2]
    exact h j hj
def legsF : Int → List Int → List Lg
  | _, [] => []
  | i, q :: r => (if q = 0 then [] else [⟨i, q⟩]) ++ legsF (i + 1) r
theorem legsF_len : ∀ (i : Int) (l : List Int), (legsF i l).length ≤ l.length
  | _, [] => Nat.le_refl _
  | i, q :: r => by
    have := legsF_len (i + 1) r
    unfold legsF
    split <;> simp <;> omega
open Classical in
noncomputable def ofR (l : List Int) : Int × List Lg := if ∀ q ∈ l, In64 q then (0, legsF 1 l) else (7, [])
def GRes (B : Nat) (w' : World) (e : Ending) (R : Int × List Lg) : Prop :=
  ∃ A' c', e = .returned (.tuple #[.slice A' R.2.length c', .int .i64 R.1]) ∧ w'.ownsRow B 151 2 (.slice A' R.2.length c') R.2.length (rc Lg.cells R.2)
theorem GRes.nil (B : Nat) (w' : World) (n : Int) : GRes B w' (.returned (.tuple #[.slice none 0 0, .int .i64 n])) (n, []) := ⟨none, 0, rfl, own_nil _ _ _⟩
end
section
theorem rc_set_bg : ∀ (l : List Bg) (k : Nat) (h : k < l.length) (x : Bg), ((rc Bg.cells l).set (k * 2) (.bool x.s)).set (k * 2 + 1) (.slice x.A x.n x.c) = rc Bg.cells (l.set k x)
  | [], k, h, _ => by simp at h
  | a :: l, 0, _, x => by simp [rc, Bg.cells]
  | a :: l, k + 1, h, x => by
    have ih := rc_set_bg l k (by simpa using h) x
    rw [List.set_cons_succ, rc_cons, rc_cons, ← ih]
    have e1 : (k + 1) * 2 = k * 2 + 1 + 1 := by omega
    rw [e1]
    simp [Bg.cells]
theorem own_set_bg {w : World} {base g n c : Nat} {l : List Bg} (h : w.ownsRow base 82 2 (.slice (some ⟨g, 0, none⟩) n c) n (rc Bg.cells l)) {k : Nat} (hk : k < l.length) (x : Bg) :
    ((w.setCell ⟨g, k * 2, none⟩ (.bool x.s)).setCell ⟨g, k * 2 + 1, none⟩ (.slice x.A x.n x.c)).ownsRow base 82 2 (.slice (some ⟨g, 0, none⟩) n c) n (rc Bg.cells (l.set k x)) := by
  have hl := rc_length Bg.len l
  have h1 := own_set1 h (k := k * 2) (by omega) (.bool x.s)
  have h2 := own_set1 h1 (k := k * 2 + 1) (by rw [List.length_set]; omega) (.slice x.A x.n x.c)
  rw [rc_set_bg l k hk x] at h2
  exact h2
theorem BgF.congr {w : World} {g : Nat} {B : List Bg} {f f' : Nat → Int} (h : BgF w g B f) (e : ∀ j, j < B.length → f j = f' j) : BgF w g B f' := fun j hj => by rw [← e j hj]; exact h j hj
theorem BgF.zero (w : World) (g : Nat) : BgF w g (List.replicate 8 Bg.zero) (fun _ => 0) := fun j hj => by
  rw [List.getElem_replicate]
  exact ⟨BigAt.zero w, fun b o h => by cases h⟩
def sumG (S : List (RowS Lg)) (i : Nat) (j : Nat) : Int := ((S.take i).map fun s => getG s.l ((j : Int) + 1)).sum
open Classical in
noncomputable def addR (S : List (RowS Lg)) : Int × List Lg := if ∀ s ∈ S, isG s.l = true then ofR ((List.range 8).map fun j => sumG S S.length j) else (3, [])
structure KeepA (w : World) (B : List Bg) (f : Nat → Int) (V : World) : Prop where
  bel : Below w.heap.size w V
  own : V.ownsRow w.heap.size 82 2 (.slice (some ⟨w.heap.size, 0, none⟩) 8 8) 8 (rc Bg.cells B)
  num : BgF V (w.heap.size + 1) B f
  lt : w.heap.size < V.heap.size
theorem KeepA.step {w V V' : World} {B : List Bg} {f : Nat → Int} (h : KeepA w B f V) (hb : Below V.heap.size V V') : KeepA w B f V' :=
  ⟨since_step h.bel hb, own_below h.own hb, h.num.below hb, Nat.lt_of_lt_of_le h.lt hb.size⟩
theorem KeepA.drew {w V : World} {B : List Bg} {f : Nat → Int} (h : KeepA w B f V) : KeepA w B f V.drew := h.step ⟨rfl, rfl, rfl, Nat.le_refl _, fun _ _ => rfl⟩
theorem KeepA.got {w V : World} {B : List Bg} {f : Nat → Int} (h : KeepA w B f V) {k : Nat} (hk : k < B.length) : V.cell? ⟨w.heap.size, k * 2, none⟩ = some (.bool B[k].s) ∧ V.cell? ⟨w.heap.size, k * 2 + 1, none⟩ = some (.slice B[k].A B[k].n B[k].c) ∧ (∀ i, V.frozen? ⟨w.heap.size, i, none⟩ = false) := by
  obtain ⟨b, o, e, _, g0, g1⟩ := (Sl.of_own h.own).bg hk
  injection e with e
  injection e with e1 e2
  subst e1; subst e2
  rw [Nat.zero_add] at g0 g1
  exact ⟨g0, g1, (own_slice_g h.own).2.2.1⟩
theorem KeepA.set {w V : World} {B : List Bg} {f f' : Nat → Int} (h : KeepA w B f V) {k : Nat} (hk : k < B.length) {x : Bg} {z : Int} (hx : BigAt V x.s x.A x.n x.c z) (hf : Fr (w.heap.size + 1) x.A x.n) (he : ∀ j, j < B.length → (if j = k then z else f j) = f' j) :
    KeepA w (B.set k x) f' ((V.setCell ⟨w.heap.size, k * 2, none⟩ (.bool x.s)).setCell ⟨w.heap.size, k * 2 + 1, none⟩ (.slice x.A x.n x.c)) := by
  refine ⟨Below.setCell (Below.setCell h.bel (p := ⟨w.heap.size, k * 2, none⟩) (Nat.le_refl _) _) (p := ⟨w.heap.size, k * 2 + 1, none⟩) (Nat.le_refl _) _, own_set_bg h.own hk x, ?_, by simpa using h.lt⟩
  have hn := (h.num.far (p := ⟨w.heap.size, k * 2, none⟩) (Nat.lt_succ_self _) (.bool x.s)).far (p := ⟨w.heap.size, k * 2 + 1, none⟩) (Nat.lt_succ_self _) (.slice x.A x.n x.c)
  have hx2 : BigAt ((V.setCell ⟨w.heap.size, k * 2, none⟩ (.bool x.s)).setCell ⟨w.heap.size, k * 2 + 1, none⟩ (.slice x.A x.n x.c)) x.s x.A x.n x.c z :=
    (hx.far (fun b o hA hn => by have := hf b o hA hn; show b ≠ w.heap.size; omega) _).far (fun b o hA hn => by have := hf b o hA hn; show b ≠ w.heap.size; omega) _
  exact (hn.set (k := k) (x := x) hx2 hf).congr (by simpa using he)
end
section
theorem getG_cons (x : Lg) (r : List Lg) (i : Int) : getG (x :: r) i = if x.ins = i then x.qty else getG r i := by
  unfold getG pickL
  rw [List.find?_cons]
  by_cases h : x.ins = i
  · rw [if_pos h, show inG i x = true by simp [inG, h]]; rfl
  · rw [if_neg h, show inG i x = false by simp [inG, h]]
theorem getG_none {l : List Lg} {i : Int} (h : ∀ x ∈ l, x.ins ≠ i) : getG l i = 0 := by
  induction l with
  | nil => rfl
  | cons x r ih => rw [getG_cons, if_neg (h x (by simp)), ih (fun y hy => h y (by simp [hy]))]
abbrev SoG (l : List Lg) : Prop := l.Pairwise (fun a b => a.ins < b.ins)
theorem risingG : ∀ l : List Lg, risingL ahG l = true ↔ SoG l
  | [] => by simp [risingL]
  | [a] => by simp [risingL]
  | a :: b :: r => by
    have ih := risingG (b :: r)
    simp only [risingL, Bool.and_eq_true, ih, ahG, decide_eq_true_eq]
    constructor
    · rintro ⟨h1, h2⟩
      refine List.Pairwise.cons ?_ h2
      intro c hc
      rcases List.mem_cons.1 hc with rfl | hc
      · exact h1
      · have := List.rel_of_pairwise_cons h2 hc
        omega
    · intro h
      exact ⟨List.rel_of_pairwise_cons h (by simp), h.of_cons⟩
theorem isG_iff (l : List Lg) : isG l = true ↔ (∀ x ∈ l, 1 ≤ x.ins ∧ x.ins ≤ 8 ∧ x.qty ≠ 0) ∧ SoG l := by
  unfold isG
  rw [Bool.and_eq_true, List.all_eq_true, risingG]
  refine and_congr_left fun _ => ⟨fun h x hx => ?_, fun h x hx => ?_⟩
  · have := h x hx
    unfold okG at this
    simp only [Bool.and_eq_true, decide_eq_true_eq, Bool.not_eq_true', beq_eq_false_iff_ne] at this
    exact ⟨this.1.1, this.1.2, this.2⟩
  · obtain ⟨h1, h2, h3⟩ := h x hx
    unfold okG
    simp [h1, h2, h3]
end
section
theorem EI64 : Elem Tryz.prog 71 2 1 8 := Elem.mk' (z := .int .i64 0) (by kernel_rfl) (by kernel_rfl) (by decide) (by decide)
end
section
section
variable {P : Program} {w : World}
theorem run_app2_Apart {t ty e : TypeId} {size bytes : Nat} (E : Elem P t e size bytes) {base n m c d : Nat} {A B : Option Addr} {xs news : List Value}
    (hown : w.ownsRow base e size (.slice A n c) n xs) (hl : news.length = m * size) (hm : 0 < m) (hr : Sl w B news) (h1 : ∀ u ∈ news, u.oneCell' = true)
    (h63 : n + m ≤ maxLen) (hb : (n + m) * bytes ≤ 140737488355328) (hbase : base ≤ w.heap.size) :
    ∃ A' c' w', (Builtin.append_ #[t, t] ty #[.slice A n c, .slice B m d]).run P w = .ok (.slice A' (n + m) c') w' ∧ w'.ownsRow base e size (.slice A' (n + m) c') (n + m) (xs ++ news) ∧
      w.grownBy w' (Value.slice A n c).ownBlock ∧ ((Value.slice A' (n + m) c').ownBlock = (Value.slice A n c).ownBlock ∨ (Value.slice A' (n + m) c').ownBlock = some w.heap.size) ∧ Below base w w' := by
  obtain ⟨i, z, hi, hz, hsize, hby, hzs⟩ := E.info
  have hne : news ≠ [] := by
    intro h0
    rw [h0, List.length_nil] at hl
    rcases Nat.mul_eq_zero.1 hl.symm with h | h
    · omega
    · have := E.pos; omega
  obtain ⟨b, o, rfl, hc⟩ := hr hne
  obtain ⟨v', w', hrun, h2, h3, _, h5⟩ := run_append_own_at (P := P) w base t ty e i z size bytes E.und hi hz hsize hby hzs E.pos _ n xs hown ⟨b, o, none⟩ m d news hl
    (fun j u hu => by rw [addr_add]; exact hc j u hu) h1 h63 hb hbase
  obtain ⟨A', c', rfl⟩ := own_form h2
  exact ⟨A', c', w', hrun, h2, h3, h5, below_of_grown h3 hbase (own_ge hown)⟩
end
def Apart_Apart (v u : Value) : Prop := ∀ g, v.ownBlock = some g → u.ownBlock ≠ some g
theorem Apart_Apart.symm {v u : Value} (h : Apart_Apart v u) : Apart_Apart u v := fun g h1 h2 => h g h2 h1
theorem Apart_Apart.none (u : Value) : Apart_Apart (.slice none 0 0) u := fun g h => by simp [Value.ownBlock] at h
theorem Apart_Apart.grow {w : World} {base e size n : Nat} {v v' u : Value} {xs : List Value} (h : Apart_Apart v u) (hu : w.ownsRow base e size u n xs) (hv : v'.ownBlock = v.ownBlock ∨ v'.ownBlock = some w.heap.size) : Apart_Apart v' u := by
  intro g h1 h2
  rcases hv with hv | hv
  · exact h g (hv ▸ h1) h2
  · rw [hv] at h1
    injection h1 with h1
    subst h1
    rcases hu.2 with ⟨rfl, _⟩ | ⟨g', cap, cur, rfl, _, hh, _⟩
    · simp [Value.ownBlock] at h2
    · simp only [Value.ownBlock, Option.some.injEq] at h2
      subst h2
      rw [Array.getElem?_eq_none (Nat.le_refl _)] at hh
      cases hh
theorem own_apart_Apart {w w' : World} {base e size n : Nat} {v u : Value} {xs : List Value} (hu : w.ownsRow base e size u n xs) (h : Apart_Apart v u) (hg : w.grownBy w' v.ownBlock) : w'.ownsRow base e size u n xs := by
  refine hu.kept hg ?_
  rcases hu.2 with ⟨rfl, _⟩ | ⟨g, cap, cur, rfl, _, hh, _⟩
  · exact .inl rfl
  · right
    intro e
    exact h g e.symm (by simp [Value.ownBlock])
section
variable {P : Program} {w : World}
theorem step_app2 {ops : Array Oper} {o : Oper} {a : Act} {K : Act → World → Prop} {Q : Exit → Act → World → Prop} {Z : Prop} (hgd : o.guard = none) (s x : Operand) {t e : TypeId} {size bytes : Nat}
    (ho : o.op = .call { callee := .builtin .append, args := #[s, x], argTypes := #[t, t] }) (E : Elem P t e size bytes) {base n m c d : Nat} {A B : Option Addr} {xs news : List Value}
    (hs : a.eval s = .slice A n c) (hx : a.eval x = .slice B m d)
    (hown : w.ownsRow base e size (.slice A n c) n xs) (hl : news.length = m * size) (hm : 0 < m) (hr : Sl w B news) (h1 : ∀ u ∈ news, u.oneCell' = true)
    (h63 : n + m ≤ maxLen) (hb : (n + m) * bytes ≤ 140737488355328) (hbase : base ≤ w.heap.size)
    (h : ∀ A' c' w', w'.ownsRow base e size (.slice A' (n + m) c') (n + m) (xs ++ news) → w.grownBy w' (Value.slice A n c).ownBlock → ((Value.slice A' (n + m) c').ownBlock = (Value.slice A n c).ownBlock ∨ (Value.slice A' (n + m) c').ownBlock = some w.heap.size) → Below base w w' → K (a.put o.dst (.slice A' (n + m) c')) w') :
    if Region.wanted o (yielded ops a.tmps) = true then Oper.wp P o a w K Q else Z := by
  have hw : Region.wanted o (yielded ops a.tmps) = true := by simp [Region.wanted, hgd]
  rw [if_pos hw]
  obtain ⟨A', c', w', hrun, h2, h3, h5, h4⟩ := run_app2_Apart (P := P) (w := w) (ty := o.type) E (d := d) hown hl hm hr h1 h63 hb hbase
  unfold Oper.wp execOp
  simp only [ho, resolve, invoke, builtin, Sem.run_bind, Sem.run_pure, Result.andThen_ok, List.map_toArray, List.map_cons, List.map_nil, hs, hx, hrun]
  exact h A' c' w' h2 h3 h5 h4
end
theorem own_far1 {w : World} {base e size n : Nat} {v : Value} {xs : List Value} (h : w.ownsRow base e size v n xs) {p : Addr} (hp : v.ownBlock ≠ some p.block) (u : Value) : (w.setCell p u).ownsRow base e size v n xs := by
  obtain ⟨h1, h2⟩ := h
  refine ⟨h1, ?_⟩
  rcases h2 with h2 | ⟨g, cap, cur, hv, hg, hh, hr⟩
  · exact .inl h2
  · refine .inr ⟨g, cap, cur, hv, hg, ?_, hr⟩
    rw [Below.heap_setCell]
    · exact hh
    · intro e
      subst hv
      subst e
      exact hp rfl
theorem own_type {w : World} {base e size n g t : Nat} {v : Value} {xs : List Value} {cs : Array Value} {fr : Nat × Nat} (h : w.ownsRow base e size v n xs) (hg : w.heap[g]? = some (.cells cs t fr)) (hne : e ≠ t) : v.ownBlock ≠ some g := by
  rcases h.2 with ⟨rfl, _⟩ | ⟨g', cap, cur, rfl, _, hh, _⟩
  · simp [Value.ownBlock]
  · simp only [Value.ownBlock, ne_eq, Option.some.injEq]
    intro e1
    subst e1
    rw [hg] at hh
    injection hh with hh
    injection hh with _ e2
    exact hne e2.symm
theorem Bk.grown {w w' : World} {b : Nat} {cs : Array Value} {row : Option Nat} (h : Bk w b cs) (hg : w.grownBy w' row) (hne : row ≠ some b) : Bk w' b cs := by
  have hk := hg.block b h.1 (fun e => hne e.symm)
  exact ⟨Nat.lt_of_lt_of_le h.1 hg.size, fun o => (World.cell?_of_block (a := ⟨b, o, none⟩) hk).trans (h.2 o)⟩
theorem Bk.far1 {w : World} {b : Nat} {cs : Array Value} (h : Bk w b cs) {p : Addr} (hp : p.block ≠ b) (u : Value) : Bk (w.setCell p u) b cs := by
  refine ⟨by simpa using h.1, fun o => ?_⟩
  rw [cell_set, if_neg (fun e => hp (by rw [e]))]
  exact h.2 o
end
end Go.Proofs.YtmjndpkfhdoljaaGreat
