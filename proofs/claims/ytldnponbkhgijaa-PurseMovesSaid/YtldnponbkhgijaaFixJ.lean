import Derived.Test.YtldnponbkhgijaaWideMJ
import Derived.Deep.RegionHeld3
import Derived.Deep.DeepCutAuto
import Derived.Deep.CutRange
import Derived.Deep.CutBlock
import Derived.Lib.ItoaNum
section
/-
  The walks of layer 2: Sum, Product.
-/
namespace Go.Proofs.Ytldnponbkhgijaa
open Go.ChangeShapes Go.WideShapes Go.ChangeAt Go.RowKit
set_option linter.unusedVariables false
set_option linter.unusedSimpArgs false

def All64 (l : List Int) : Prop := ∀ x ∈ l, In64 x
theorem sum_bound (l : List Int) (h : All64 l) : -(l.length : Int) * 9223372036854775808 ≤ l.sum ∧ l.sum ≤ (l.length : Int) * 9223372036854775808 := by
  induction l with
  | nil => simp
  | cons a m ih =>
    have h1 := ih (fun x hx => h x (by simp [hx]))
    have h2 := h a (by simp)
    unfold In64 at h2
    simp only [List.length_cons, List.sum_cons]
    omega
theorem sum_in128 (l : List Int) (h : All64 l) (hl : l.length ≤ 1000000) : In128 l.sum := by
  have := sum_bound l h
  unfold In128
  omega
theorem two_cells (x y : Int) : wcells [x, y] = [.int .i64 (hiN x), .int .u64 (loN x), .int .i64 (hiN y), .int .u64 (loN y)] := rfl

set_option maxHeartbeats 1000000 in
theorem fsub_any (a b : Int) (ha : In64 a) (hb : In64 b) (w : World) :
    Calls Try.prog 89 #[.int .i64 a, .int .i64 b] w fun e w' => e = .returned (.tuple #[.int .i64 (fV (a - b)), .int .i64 (fE (a - b))]) ∧ Below w.heap.size w w' := by
  have ha128 := (of_in a ha).2.2
  have hb128 := (of_in b hb).2.2
  have hin : In128 (a + -b) := by unfold In64 at ha hb; unfold In128; omega
  have HE := Lib.hid (wideE_yes hin)
  have HS := Lib.hid (show a + -b = a - b by omega)
  go_enter Try.func89, Try.ntmps89
  go_wp2_with fail
  refine (wof_any a ha _).mono ?_
  rintro e w1 ⟨rfl, hb1⟩
  have hB1 := since_step (Below.refl _ _) hb1
  clear hb1
  go_wp2_with fail
  refine (wof_any b hb _).mono ?_
  rintro e w2 ⟨rfl, hb2⟩
  have hB2 := since_step hB1 hb2
  clear hb2 hB1
  go_wp2_with fail
  refine (wsub_any a b ha128 hb128 _).mono ?_
  rintro e w3 ⟨rfl, hb3⟩
  have hB3 := since_step hB2 hb3
  rw [HE.out]
  clear hb3 hB2
  go_wp2_with fail
  refine (int_any (a + -b) hin _).mono ?_
  rintro e w4 ⟨rfl, hb4⟩
  have hB4 := since_step (since_alloc hB3 _) hb4
  rw [HS.out]
  clear hb4 hB3
  go_wp2_with fail
  go_ret2
  exact ⟨rfl, hB4⟩

set_option maxHeartbeats 8000000 in
theorem fsum_any (A : Option Addr) (cap : Nat) (l : List Int) (w : World) (hl : l.length ≤ 1000000) (hx : All64 l) (hs : Sl w A (ints .i64 l)) :
    Calls Try.prog 152 #[.slice A l.length cap] w fun e w' => e = .returned (.tuple #[.int .i64 (fV l.sum), .int .i64 (fE l.sum)]) ∧ Below w.heap.size w w' := by
  obtain ⟨z1, z2, z3⟩ := zero_parts
  go_enter Try.func152, Try.ntmps152
  go_wp2
  go_loopw [11] (fun i wr => ∃ k : Nat, k ≤ l.length ∧ i = .int .i64 k ∧ T2 wr w.heap.size (hiN (l.take k).sum) (loN (l.take k).sum) ∧ Below w.heap.size w wr) (fun i _ => l.length - (intOf i).toNat)
  case atStart =>
    refine ⟨0, by omega, rfl, ?_, (Below.refl _ _).alloc (Nat.le_refl _) _⟩
    simp only [List.take_zero, List.sum_nil, z1, z2]
    exact T2.new w 0 0 _
  case round =>
    obtain ⟨k, hk, rfl, ht, hB⟩ := hrel
    by_cases hlt : k < l.length
    · obtain ⟨b, o, rfl, hzw⟩ := hs.int hlt
      have hbw : b < w.heap.size := World.block_lt_of_cell? _ _ hzw
      have hz := (hB.cell (p := ⟨b, o + k, none⟩) hbw).trans hzw
      have hbr : b < wr.heap.size := Nat.lt_of_lt_of_le hbw hB.size
      have hsum : (l.take (k + 1)).sum = (l.take k).sum + l[k] := by rw [take_snoc l k hlt, List.sum_append]; simp
      have h1 : In128 (l.take k).sum := sum_in128 _ (fun x h => hx x (List.mem_of_mem_take h)) (by simp; omega)
      have h2 : In128 (l.take (k + 1)).sum := sum_in128 _ (fun x h => hx x (List.mem_of_mem_take h)) (by simp; omega)
      have hin := hx _ (List.getElem_mem hlt)
      rw [hsum] at h2
      have HS := Lib.hid hsum
      clear hsum
      generalize l[k] = x at *
      generalize (l.take k).sum = y at *
      have HE := Lib.hid (wideE_yes h2)
      obtain ⟨a0, a1, a2, f1, f2⟩ := id ht
      have hcs := @cell_set
      have HTW := Lib.hid ht
      go_upto_region 5 with fail
      go_cut [7, 8] (fun s7 s8 wx => ∃ g : Nat, s7 = .pointer (some ⟨g, 0, none⟩) ∧ s8 = .int .i64 0 ∧ T2 wx g (hiN (y + x)) (loN (y + x)) ∧ T2 wx w.heap.size (hiN y) (loN y) ∧ g ≠ w.heap.size ∧ Below w.heap.size w wx)
      case first =>
        go_region_with (first
          | (go_at_call 77; refine (wof_any x hin _).mono ?_; rintro e w1 ⟨rfl, hb1⟩; have hT1 : T2 w1 w.heap.size (hiN y) (loN y) := (by first | exact ht.drew.below hb1 | exact (ht.drew.alloc _).below hb1); have hB1 : Below w.heap.size w w1 := (by first | exact since_step hB.drew hb1 | exact since_step (since_alloc hB.drew _) hb1); (first | have G1 : T2 w1 wr.heap.size 0 0 := (T2.new wr.drew 0 0 28).below hb1 | skip); have hz1 : wr.heap.size ≤ w1.heap.size := (by have := hb1.size; simp at this; omega); obtain ⟨b0, b1, b2, b3, b4⟩ := id hT1; clear hb1)
          | (go_at_call 78; refine (wadd_any _ 2 [y, x] _ (by simp) (by intro z hz; simp at hz; rcases hz with rfl | rfl; exact h1; exact (of_in _ hin).2.2) (by first | exact Sl.new_ _ _ _ | exact (Sl.new_ _ _ _).alloc _ | exact Sl.new1 _ _ _ _)).mono ?_; rintro e w2 ⟨rfl, hb2⟩; have hT2 : T2 w2 w.heap.size (hiN y) (loN y) := (by first | exact (hT1.alloc _).below hb2 | exact ((hT1.alloc _).alloc _).below hb2); have hB2 : Below w.heap.size w w2 := (by first | exact since_step (since_alloc hB1 _) hb2 | exact since_step (since_alloc (since_alloc hB1 _) _) hb2); (first | have G2 := (G1.alloc _).below hb2 | have G2 := ((T2.new w1 0 0 28).alloc _).below hb2 | (have G2 := (T2.new (w1.alloc (.cells #[.int .i64 (hiN y), .int .u64 (loN y), .int .i64 (hiN x), .int .u64 (loN x)] 28)) 0 0 28).below hb2; rw [World.size_alloc] at G2) | skip); (first | obtain ⟨g0, g1, g2, g3, g4⟩ := _root_.id G2 | skip); rw [show [y, x].sum = y + x from by simp, HE.out]; have hz2 : w1.heap.size < w2.heap.size := (by have := hb2.size; simp at this; omega); clear hb2))
        all_goals
          go_wp2_with fail
          go_meet
          case rel =>
            first
              | exact ⟨_, rfl, rfl, G2.set2 _ _, (hT2.far (by simp; omega) _).far (by simp; omega) _, by simp; omega, by
                  refine Below.setCell (Below.setCell hB2 ?_ _) ?_ _ <;> (simp; omega)⟩
              | exact ⟨_, rfl, rfl, T2.new _ _ _ _, hT2.alloc _, by simp; omega, since_alloc hB2 _⟩
      case rest =>
        obtain ⟨g, rfl, rfl, hG, hT, hne, hBx⟩ := hcut
        obtain ⟨g0, g1, g2, g3, g4⟩ := id hG
        obtain ⟨t0, t1, t2, t3, t4⟩ := id hT
        clear hz ht a0 a1 a2 f1 f2
        go_wp2
        go_roundw
        case rel =>
          refine ⟨k + 1, by omega, by go_num, ?_, ?_⟩
          · rw [HS.out]
            exact hT.set2 _ _
          · refine Below.setCell (Below.setCell hBx ?_ _) ?_ _ <;> simp
        case measure => simp [intOf]; omega
    · obtain rfl : k = l.length := by omega
      rw [List.take_length] at ht
      have h128 := sum_in128 l hx hl
      obtain ⟨a0, a1, a2, f1, f2⟩ := id ht
      go_wp2_with fail
      refine (int_any l.sum h128 _).mono ?_
      rintro e w1 ⟨rfl, hb1⟩
      have hB1 := since_step hB hb1
      go_wp2_with fail
      go_ret2
      exact ⟨rfl, hB1⟩
end Go.Proofs.Ytldnponbkhgijaa
end
section
/-
  The walks of layer 2, second part: Abs, Most, Least, Clip; the document's Most, Least; Is; few.
-/
namespace Go.Proofs.Ytldnponbkhgijaa
open Go.ChangeShapes Go.WideShapes Go.ChangeAt Go.RowKit
set_option linter.unusedVariables false
set_option linter.unusedSimpArgs false

def mxL (a : Int) (l : List Int) : Int := l.foldl (fun x y => if x < y then y else x) a
def mnL (a : Int) (l : List Int) : Int := l.foldl (fun x y => if y < x then y else x) a
theorem mxL_take (a : Int) (l : List Int) (k : Nat) (h : k < l.length) : mxL a (l.take (k + 1)) = if mxL a (l.take k) < l[k] then l[k] else mxL a (l.take k) := by
  unfold mxL; rw [take_snoc l k h, List.foldl_append]; rfl
theorem mnL_take (a : Int) (l : List Int) (k : Nat) (h : k < l.length) : mnL a (l.take (k + 1)) = if l[k] < mnL a (l.take k) then l[k] else mnL a (l.take k) := by
  unfold mnL; rw [take_snoc l k h, List.foldl_append]; rfl




/-- the next one between two -/
def clipI (a lo hi : Int) : Int := mxL lo [mnL a [hi]]

theorem in64_iff (z : Int) : inN z 63 ↔ In64 z := by rw [inN_63]; exact Iff.rfl
theorem fV_in (z : Int) : In64 (fV z) := by unfold fV; split <;> first | assumption | decide

end Go.Proofs.Ytldnponbkhgijaa
end
section
/-
  The document's Int (as XW8 has it, for seats without the law's big).
-/
namespace Go.Proofs.Ytldnponbkhgijaa
open Go.ChangeShapes Go.WideShapes Go.ChangeAt Go.RowKit
set_option linter.unusedVariables false
set_option linter.unusedSimpArgs false
theorem bval_dropkR (l : List Nat) (j : Nat) (h : j < l.length) : bval (l.drop j) = l[j] + 2 * bval (l.drop (j + 1)) := by
  rw [List.drop_eq_getElem_cons h]; rfl

theorem cmp_same (z : Int) : cmpZ z z = 0 := by unfold cmpZ; simp
theorem BigAt.l64 {w : World} {s : Bool} {A : Option Addr} {n c : Nat} {z : Int} (h : BigAt w s A n c z) (hz : In64 z) : n ≤ 64 := (h.len (k := 64)).2 (by unfold In64 at hz; simp; omega)

set_option maxRecDepth 100000 in
set_option maxHeartbeats 4000000 in
theorem rint_any (x : Int) (hin : In64 x) (s : Bool) (A : Option Addr) (n c : Nat) (w : World) (hx : BigAt w s A n c x) :
    Calls Try.prog 55 #[.agg #[.bool s, .slice A n c]] w fun e w' => e = .returned (.int .i64 x) ∧ Below w.heap.size w w' := by
  have la := hx.l64 hin
  obtain ⟨a, h1, h2, h3, h4, h5, h6, h7⟩ := hx.ex
  subst h1
  clear hx h6
  have P1 := BB.new w s A a.length c 35
  have hB0 := since_alloc (Below.refl _ w) (.cells #[.bool s, .slice A a.length c] 35)
  have S1 := h4.below hB0
  have H7 := Lib.hid h7
  have HI := Lib.hid hin
  clear h7 hin h4
  go_enter Try.func55, Try.ntmps55
  go_upto_region 1 with fail
  generalize w.alloc (.cells #[.bool s, .slice A a.length c] 35) = W0 at *
  obtain ⟨p0, p1, p2, p3, p4⟩ := _root_.id P1
  go_wp2_with fail
  go_loopw [3, 4] (fun vn vi wr => ∃ (k : Nat) (v : Int), vi = .int .i64 k ∧ vn = .int .i64 v ∧ k ≤ a.length ∧ v = (if s = true then -(bval (a.drop k) : Int) else (bval (a.drop k) : Int)) ∧ Below W0.heap.size W0 wr) (fun _ i _ => (intOf i).toNat)
  case atStart => exact ⟨a.length, 0, rfl, rfl, by omega, by simp [bval], Below.refl _ _⟩
  case round =>
    obtain ⟨k, v, rfl, rfl, hk, hv, hB⟩ := hrel
    obtain ⟨q0, q1, q2, q3, q4⟩ := P1.below hB
    clear p0 p1 p2 p3 p4
    by_cases hk0 : 0 < k
    · obtain ⟨j, hj⟩ : ∃ j, k = j + 1 := ⟨k - 1, by omega⟩
      have hlt : j < a.length := by omega
      obtain ⟨bb, o, rfl, hz⟩ := (S1.below hB).byte hlt
      have hbr := World.block_lt_of_cell? _ _ hz
      have hbit := h5.1.at_ hlt
      have hdr : bval (a.drop j) = a[j] + 2 * bval (a.drop k) := by rw [bval_dropkR a j hlt, ← hj]
      have hle : bval (a.drop j) ≤ bval a := by
        have h8 := bval_drop a j (by omega)
        have h9 : 1 * bval (a.drop j) ≤ 2 ^ j * bval (a.drop j) := Nat.mul_le_mul_right _ (Nat.two_pow_pos j)
        omega
      have hin := HI.out
      have h7 := H7.out
      unfold In64 at hin
      have HJ := Lib.hid hj
      have HDR := Lib.hid hdr
      have f1 : IntKind.i64.wrap ((k : Int) - 1) = (j : Int) := by rw [IntKind.wrap_i64]; omega
      have d1 : decide (0 < (k : Int)) = true := decide_eq_true (by omega)
      have d1' : decide (0 < k) = true := decide_eq_true hk0
      generalize hdj : bval (a.drop j) = dj at *
      generalize hdk : bval (a.drop k) = dk at *
      generalize a[j] = bt at *
      have f2 : IntKind.i64.wrap (bt : Int) = (bt : Int) := by rw [IntKind.wrap_i64]; omega
      cases s with
      | false =>
        simp only [Bool.false_eq_true, if_false] at hv h7
        have f3 : IntKind.i64.wrap (2 * v) = 2 * v := by rw [IntKind.wrap_i64]; omega
        have f4 : IntKind.i64.wrap (2 * v + (bt : Int)) = (dj : Int) := by rw [IntKind.wrap_i64]; omega
        have HDJ := Lib.hid hdj
        clear hdr hle hin h7 hdj hdk hv hj
        go_wp2
        go_roundw
        case rel => exact ⟨j, (dj : Int), rfl, rfl, by omega, by simp [HDJ.out], hB⟩
        case measure => have := HJ.out; simp [intOf]; omega
      | true =>
        simp only [if_true] at hv h7
        have f3 : IntKind.i64.wrap (2 * v) = 2 * v := by rw [IntKind.wrap_i64]; omega
        have f4 : IntKind.i64.wrap (2 * v - (bt : Int)) = -(dj : Int) := by rw [IntKind.wrap_i64]; omega
        have HDJ := Lib.hid hdj
        clear hdr hle hin h7 hdj hdk hv hj
        go_wp2
        go_roundw
        case rel => exact ⟨j, -(dj : Int), rfl, rfl, by omega, by simp [HDJ.out], hB⟩
        case measure => have := HJ.out; simp [intOf]; omega
    · obtain rfl : k = 0 := by omega
      rw [List.drop_zero] at hv
      have hvx : v = x := by rw [hv, H7.out]
      subst hvx
      go_wp2
      go_ret
      exact ⟨rfl, since_step hB0 hB⟩

theorem BB.new1 (w : World) (o : Obj) (s : Bool) (A : Option Addr) (n c : Nat) (t : TypeId) : BB ((w.alloc o).alloc (.cells #[.bool s, .slice A n c] t)) (w.heap.size + 1) s A n c := by
  have := BB.new (w.alloc o) s A n c t
  rwa [World.size_alloc] at this

theorem BB.newS2 (w : World) (p q : Addr) (u v : Value) (s : Bool) (A : Option Addr) (n c : Nat) (t : TypeId) : BB (((w.setCell p u).setCell q v).alloc (.cells #[.bool s, .slice A n c] t)) w.heap.size s A n c := by
  have := BB.new ((w.setCell p u).setCell q v) s A n c t
  simpa using this

end Go.Proofs.Ytldnponbkhgijaa
end
section
/-
  A document's number that lies in a block of its own: the block, the number, its row above a mark.
-/
namespace Go.Proofs.Ytldnponbkhgijaa
open Go.ChangeShapes Go.WideShapes Go.ChangeAt Go.RowKit
set_option linter.unusedVariables false
set_option linter.unusedSimpArgs false

theorem BigAt.l128 {w : World} {s : Bool} {A : Option Addr} {n c : Nat} {z : Int} (h : BigAt w s A n c z) (hz : In128 z) : n ≤ 128 := h.len.2 (by
  rw [show (2 : Nat) ^ 128 = 340282366920938463463374607431768211456 from by decide]
  unfold In128 at hz
  omega)
structure BX (B : Nat) (w : World) (g : Nat) (s : Bool) (A : Option Addr) (n c : Nat) (z : Int) : Prop where
  bb : BB w g s A n c
  at_ : BigAt w s A n c z
  fr : Fr B A n
  hg : g < B
section
variable {B : Nat} {w w' : World} {g : Nat} {s : Bool} {A : Option Addr} {n c : Nat} {z : Int}
theorem BX.below (h : BX B w g s A n c z) (hb : Below w.heap.size w w') : BX B w' g s A n c z := ⟨h.bb.below hb, h.at_.below hb, h.fr, h.hg⟩
theorem BX.alloc (h : BX B w g s A n c z) (o : Obj) : BX B (w.alloc o) g s A n c z := h.below ((Below.refl _ _).alloc (Nat.le_refl _) o)
theorem BX.drew (h : BX B w g s A n c z) : BX B w.drew g s A n c z := h.below ⟨rfl, rfl, rfl, Nat.le_refl _, fun _ _ => rfl⟩
theorem BX.set (h : BX B w g s A n c z) {p : Addr} (hp : p.block < B) (hne : p.block ≠ g) (v : Value) : BX B (w.setCell p v) g s A n c z :=
  ⟨h.bb.far hne v, h.at_.far (fun b o hA hn => by have := h.fr b o hA hn; omega) v, h.fr, h.hg⟩
theorem BX.put (h : BX B w g s A n c z) {s' : Bool} {A' : Option Addr} {n' c' : Nat} {z' : Int} (hz : BigAt w s' A' n' c' z') (hf : Fr B A' n') :
    BX B ((w.setCell ⟨g, 0, none⟩ (.bool s')).setCell ⟨g, 1, none⟩ (.slice A' n' c')) g s' A' n' c' z' := by
  have hg := h.hg
  refine ⟨h.bb.set2 s' A' n' c', ?_, hf, hg⟩
  refine BigAt.far (BigAt.far hz ?_ _) ?_ _
  · intro b o hA hn
    have := hf b o hA hn
    show b ≠ g
    omega
  · intro b o hA hn
    have := hf b o hA hn
    show b ≠ g
    omega
theorem BX.pos (h : BX B w g s A n c z) : BX B (w.setCell ⟨g, 0, none⟩ (.bool false)) g false A n c (z.natAbs : Int) := by
  have hg := h.hg
  refine ⟨?_, ?_, h.fr, hg⟩
  · obtain ⟨h0, h1, h2, f1, f2⟩ := h.bb
    refine ⟨by simpa using h0, ?_, ?_, by simpa using f1, by simpa using f2⟩ <;> simp [cell_set, h1, h2]
  · refine BigAt.far h.at_.abs ?_ _
    intro b o hA hn
    have := h.fr b o hA hn
    show b ≠ g
    omega
theorem BX.new (hB : w.heap.size < B) (t : TypeId) : BX B (w.alloc (.cells #[.bool false, .slice none 0 0] t)) w.heap.size false none 0 0 0 :=
  ⟨BB.new w false none 0 0 t, BigAt.zero _, (fun b o h => by cases h), hB⟩
end
end Go.Proofs.Ytldnponbkhgijaa
end
section
/-
  Division by 64 bits: the mathematics of Div64's two digits.
-/
namespace Go.Proofs.Ytldnponbkhgijaa
open Go.ChangeShapes Go.WideShapes Go.ChangeAt Go.RowKit
set_option linter.unusedVariables false
set_option linter.unusedSimpArgs false

/-- one digit: Y = A * 2^32 + B is the divisor, u * 2^32 + d what is divided -/
structure Dg (Y A B u d : Nat) : Prop where
  hy : Y = A * 4294967296 + B
  hb : B < 4294967296
  ha : 2147483648 ≤ A
  ha2 : A < 4294967296
  hu : u < Y
  hd : d < 4294967296

theorem lin_lt (qa qb r d M : Nat) (hc : r * M + d < qb) : (qa + r) * M + d < qa * M + qb := by rw [Nat.add_mul]; omega
theorem lin_le (qa qb r d M : Nat) (hc : qb ≤ r * M + d) : qa * M + qb ≤ (qa + r) * M + d := by rw [Nat.add_mul]; omega
theorem lin_end (M q1 Y u2 d0 q0 r : Nat) (e0 : u2 * M + d0 = q0 * Y + r) : (q1 * Y + u2) * M + d0 = (q1 * M + q0) * Y + r := by
  rw [Nat.add_mul, Nat.add_mul, Nat.mul_right_comm q1 M Y]
  generalize q1 * Y * M = a at *
  omega
section digit
variable {Y A B u d : Nat}
def dgQ (Y u d : Nat) : Nat := (u * 4294967296 + d) / Y

theorem Dg.pos (h : Dg Y A B u d) : 0 < Y := by have := h.hu; omega
theorem Dg.q_lt (h : Dg Y A B u d) : dgQ Y u d < 4294967296 := by
  unfold dgQ
  rw [Nat.div_lt_iff_lt_mul h.pos]
  have := h.hu; have := h.hd
  omega
theorem Dg.le (h : Dg Y A B u d) : dgQ Y u d ≤ u / A := by
  have hA : 0 < A := by have := h.ha; omega
  rw [Nat.le_div_iff_mul_le hA]
  have h1 : dgQ Y u d * Y ≤ u * 4294967296 + d := Nat.div_mul_le_self _ _
  have h2 : dgQ Y u d * (A * 4294967296) ≤ dgQ Y u d * Y := Nat.mul_le_mul_left _ (by have := h.hy; omega)
  have h3 : dgQ Y u d * (A * 4294967296) = dgQ Y u d * A * 4294967296 := by rw [Nat.mul_assoc]
  have := h.hd
  omega
theorem Dg.q2 (h : Dg Y A B u d) : u / A ≤ 4294967297 := by
  have hA : 0 < A := by have := h.ha; omega
  have : u / A < 4294967298 := by
    rw [Nat.div_lt_iff_lt_mul hA]
    have := h.hu; have := h.hy; have := h.hb; have := h.ha
    omega
  omega
theorem Dg.more (h : Dg Y A B u d) {q r : Nat} (e : q * A + r = u) (hc : r * 4294967296 + d < q * B) : dgQ Y u d + 1 ≤ q := by
  have : dgQ Y u d < q := by
    unfold dgQ
    have e2 : q * Y = q * A * 4294967296 + q * B := by rw [h.hy, Nat.mul_add q (A * 4294967296) B, Nat.mul_assoc q A 4294967296]
    rw [Nat.div_lt_iff_lt_mul h.pos, e2]
    subst e
    exact lin_lt _ _ _ _ _ hc
  omega
theorem Dg.done (h : Dg Y A B u d) {q r : Nat} (e : q * A + r = u) (hq : dgQ Y u d ≤ q) (hc : q * B ≤ r * 4294967296 + d) : q = dgQ Y u d := by
  have : q ≤ dgQ Y u d := by
    clear hq
    unfold dgQ
    have e2 : q * Y = q * A * 4294967296 + q * B := by rw [h.hy, Nat.mul_add q (A * 4294967296) B, Nat.mul_assoc q A 4294967296]
    rw [Nat.le_div_iff_mul_le h.pos, e2]
    subst e
    exact lin_le _ _ _ _ _ hc
  omega
theorem Dg.broke (h : Dg Y A B u d) {q r : Nat} (e : q * A + r = u) (hq : dgQ Y u d ≤ q) (h2 : q ≤ 4294967296) (hr : 4294967296 ≤ r) : q = dgQ Y u d := by
  refine h.done e hq ?_
  have : q * B ≤ 4294967296 * 4294967295 := Nat.mul_le_mul h2 (by have := h.hb; omega)
  omega
/-- what is left behind a digit -/
theorem Dg.rest (h : Dg Y A B u d) : dgQ Y u d * Y ≤ u * 4294967296 + d ∧ u * 4294967296 + d - dgQ Y u d * Y < Y := by
  have h1 : dgQ Y u d * Y ≤ u * 4294967296 + d := Nat.div_mul_le_self _ _
  refine ⟨h1, ?_⟩
  have h2 : Y * dgQ Y u d + (u * 4294967296 + d) % Y = u * 4294967296 + d := Nat.div_add_mod _ _
  have h3 : (u * 4294967296 + d) % Y < Y := Nat.mod_lt _ h.pos
  rw [Nat.mul_comm] at h2
  omega

end digit
/-- what u64's arithmetic makes of a digit's rest -/
theorem wrap_rest (p d m : Nat) (h : m ≤ p + d) (h2 : p + d - m < 18446744073709551616) :
    IntKind.u64.wrap (IntKind.u64.wrap (IntKind.u64.wrap (p : Int) + (d : Int)) - IntKind.u64.wrap (m : Int)) = ((p + d - m : Nat) : Int) := by
  rw [IntKind.wrap_u64, IntKind.wrap_u64, IntKind.wrap_u64, IntKind.wrap_u64]
  omega

theorem wrap_quo (u a q : Nat) (hq : q = u / a) (h : q ≤ 4294967297) : IntKind.u64.wrap ((u : Int) / (a : Int)) = (q : Int) := by
  rw [show (u : Int) / (a : Int) = ((u / a : Nat) : Int) from by simp, ← hq, IntKind.wrap_u64]
  omega
theorem wrap_rem (u a q r : Nat) (h : q * a + r = u) (hu : u < 18446744073709551616) : IntKind.u64.wrap ((u : Int) - IntKind.u64.wrap ((q : Int) * (a : Int))) = (r : Int) := by
  rw [show (q : Int) * (a : Int) = ((q * a : Nat) : Int) from by simp, IntKind.wrap_u64, IntKind.wrap_u64]
  generalize q * a = m at *
  omega
theorem wrap_mul (q b m : Nat) (hm : m = q * b) (h : m < 18446744073709551616) : IntKind.u64.wrap ((q : Int) * (b : Int)) = (m : Int) := by
  rw [show (q : Int) * (b : Int) = ((q * b : Nat) : Int) from by simp, ← hm, IntKind.wrap_u64]
  omega
/-- the numbers that Div64 begins with -/
theorem div_start (N hi lo y : Nat) (hNN : N = hi * 18446744073709551616 + lo) (h1 : hi < y) (h2 : y < 18446744073709551616) (h3 : lo < 18446744073709551616) :
    ∃ s Y A B U T T1 T0 : Nat, (64 - (Lib.bitLen (y : Int).toNat : Int)) = (s : Int) ∧ s ≤ 63 ∧ IntKind.u64.wrap ((y : Int) * 2 ^ s) = (Y : Int) ∧ (Y : Int) / 4294967296 = (A : Int) ∧
      bits .and .u64 (Y : Int) 4294967295 = (B : Int) ∧ bits .or .u64 (IntKind.u64.wrap ((hi : Int) * 2 ^ s)) ((lo : Int) / 2 ^ (64 - s)) = (U : Int) ∧
      IntKind.u64.wrap ((lo : Int) * 2 ^ s) = (T : Int) ∧ (T : Int) / 4294967296 = (T1 : Int) ∧ bits .and .u64 (T : Int) 4294967295 = (T0 : Int) ∧
      Dg Y A B U T1 ∧ T0 < 4294967296 ∧ Y < 18446744073709551616 ∧ Y = y * 2 ^ s ∧ N * 2 ^ s = (U * 4294967296 + T1) * 4294967296 + T0 := by
  have hy0 : y ≠ 0 := by clear hNN; omega
  obtain ⟨b1, b2, b3⟩ := Lib.bitLenAux_bounds 64 y (by omega) hy0
  have hbl : Lib.bitLen y = Lib.bitLenAux 64 y := rfl
  rw [← hbl] at b1 b2 b3
  have b4 : Lib.bitLen y ≤ 64 := Lib.bitLen_le y 64 (by omega) (by omega)
  generalize hb : Lib.bitLen y = bl at *
  obtain ⟨s, hs⟩ : ∃ s, s = 64 - bl := ⟨_, rfl⟩
  have hpow : 2 ^ (64 - s) * 2 ^ s = 18446744073709551616 := by
    rw [← Nat.pow_add, show 64 - s + s = 64 from by omega]
  have hYlt : y * 2 ^ s < 18446744073709551616 := by
    rw [← hpow]
    exact Nat.mul_lt_mul_of_pos_right (by rw [show 64 - s = bl from by omega]; exact b3) (Nat.two_pow_pos s)
  have hYge : 9223372036854775808 ≤ y * 2 ^ s := by
    have h5 : 2 ^ (bl - 1) * 2 ^ s ≤ y * 2 ^ s := Nat.mul_le_mul_right _ b2
    rw [← Nat.pow_add, show bl - 1 + s = 63 from by omega] at h5
    exact h5
  have hHlt : hi * 2 ^ s + 2 ^ s ≤ y * 2 ^ s := by
    have := Nat.mul_le_mul_right (2 ^ s) (show hi + 1 ≤ y by omega)
    rwa [Nat.add_mul, Nat.one_mul] at this
  have hLlt : lo / 2 ^ (64 - s) < 2 ^ s := by
    rw [Nat.div_lt_iff_lt_mul (Nat.two_pow_pos _), Nat.mul_comm, hpow]
    exact h3
  have hlo : lo * 2 ^ s = lo / 2 ^ (64 - s) * 18446744073709551616 + lo % 2 ^ (64 - s) * 2 ^ s := by
    conv => lhs; rw [← Nat.div_add_mod lo (2 ^ (64 - s))]
    rw [Nat.add_mul, Nat.mul_comm (2 ^ (64 - s)), Nat.mul_assoc, hpow]
  have hTlt : lo % 2 ^ (64 - s) * 2 ^ s < 18446744073709551616 := by
    rw [← hpow]
    exact Nat.mul_lt_mul_of_pos_right (Nat.mod_lt _ (Nat.two_pow_pos _)) (Nat.two_pow_pos s)
  have c1 : ((y : Int) * 2 ^ s) = ((y * 2 ^ s : Nat) : Int) := by simp
  have c2 : ((hi : Int) * 2 ^ s) = ((hi * 2 ^ s : Nat) : Int) := by simp
  have c3 : ((lo : Int) * 2 ^ s) = ((lo * 2 ^ s : Nat) : Int) := by simp
  have c4 : ((lo : Int) / 2 ^ (64 - s)) = ((lo / 2 ^ (64 - s) : Nat) : Int) := by simp
  have hor : hi * 2 ^ s ||| lo / 2 ^ (64 - s) = hi * 2 ^ s + lo / 2 ^ (64 - s) := nat_join s _ _ (Nat.mul_mod_left _ _) hLlt
  have hN : (hi * 18446744073709551616 + lo) * 2 ^ s = (hi * 2 ^ s + lo / 2 ^ (64 - s)) * 18446744073709551616 + lo % 2 ^ (64 - s) * 2 ^ s := by
    rw [Nat.add_mul, hlo, Nat.mul_assoc, Nat.mul_comm 18446744073709551616 (2 ^ s), ← Nat.mul_assoc]
    omega
  refine ⟨s, y * 2 ^ s, y * 2 ^ s / 4294967296, y * 2 ^ s % 4294967296, hi * 2 ^ s + lo / 2 ^ (64 - s), lo % 2 ^ (64 - s) * 2 ^ s, lo % 2 ^ (64 - s) * 2 ^ s / 4294967296, lo % 2 ^ (64 - s) * 2 ^ s % 4294967296, ?_, by omega, ?_, ?_, ?_, ?_, ?_, ?_, ?_, ⟨by omega, by omega, by omega, by omega, ?_, by omega⟩, by omega, hYlt, rfl, ?_⟩
  · rw [Int.toNat_natCast, hb]; omega
  · rw [c1, IntKind.wrap_u64]; omega
  · omega
  · rw [show (4294967295 : Int) = ((4294967295 : Nat) : Int) from rfl, u64_and_nat _ _ hYlt (by omega)]
    exact congrArg _ (Nat.and_two_pow_sub_one_eq_mod _ 32)
  · rw [c2, c4, IntKind.wrap_u64, show ((hi * 2 ^ s : Nat) : Int) % 18446744073709551616 = ((hi * 2 ^ s : Nat) : Int) from by omega, u64_or_nat _ _ (by omega) (by omega), hor]
  · rw [c3, IntKind.wrap_u64, hlo]; omega
  · omega
  · rw [show (4294967295 : Int) = ((4294967295 : Nat) : Int) from rfl, u64_and_nat _ _ hTlt (by omega)]
    exact congrArg _ (Nat.and_two_pow_sub_one_eq_mod _ 32)
  · omega
  · rw [hNN, hN]; omega

/-- what both digits make -/
theorem div_end (N y s Y u d1 d0 q1 u2 q0 r : Nat) (hY : Y = y * 2 ^ s) (hN : N * 2 ^ s = (u * 4294967296 + d1) * 4294967296 + d0) (e1 : u * 4294967296 + d1 = q1 * Y + u2)
    (e0 : u2 * 4294967296 + d0 = q0 * Y + r) (hr : r < Y) : N / y = q1 * 4294967296 + q0 ∧ r / 2 ^ s = N % y := by
  have hp := Nat.two_pow_pos s
  have hy : 0 < y := by
    rcases Nat.eq_zero_or_pos y with h | h
    · rw [h, Nat.zero_mul] at hY; omega
    · exact h
  have key : N * 2 ^ s = (q1 * 4294967296 + q0) * Y + r := by
    rw [hN, e1]
    exact lin_end _ _ _ _ _ _ _ e0
  rw [hY, ← Nat.mul_assoc] at key
  have hle : (q1 * 4294967296 + q0) * y ≤ N := by
    have h5 : (q1 * 4294967296 + q0) * y * 2 ^ s ≤ N * 2 ^ s := by omega
    exact Nat.le_of_mul_le_mul_right h5 hp
  obtain ⟨t, ht⟩ := Nat.exists_eq_add_of_le hle
  rw [ht, Nat.add_mul] at key
  have hrt : r = t * 2 ^ s := by omega
  have htl : t < y := by
    rw [hrt, hY] at hr
    exact Nat.lt_of_mul_lt_mul_right hr
  rw [ht, hrt, Nat.mul_div_cancel _ hp, Nat.mul_comm _ y]
  refine ⟨?_, ?_⟩
  · rw [Nat.mul_add_div hy, Nat.div_eq_of_lt htl, Nat.add_zero]
  · rw [Nat.mul_add_mod, Nat.mod_eq_of_lt htl]
theorem rest_val (U T Q Y u2 : Nat) (h : U * 4294967296 + T = Q * Y + u2) (h2 : u2 < 18446744073709551616) :
    IntKind.u64.wrap (IntKind.u64.wrap (IntKind.u64.wrap ((U : Int) * 4294967296) + (T : Int)) - IntKind.u64.wrap ((Q : Int) * (Y : Int))) = (u2 : Int) := by
  rw [show (Q : Int) * (Y : Int) = ((Q * Y : Nat) : Int) from by simp, IntKind.wrap_u64, IntKind.wrap_u64, IntKind.wrap_u64, IntKind.wrap_u64]
  generalize Q * Y = m at *
  omega
theorem both_val (Q1 Q0 z : Nat) (h1 : Q1 < 4294967296) (h0 : Q0 < 4294967296) (hz : z = Q1 * 4294967296 + Q0) : IntKind.u64.wrap (IntKind.u64.wrap ((Q1 : Int) * 4294967296) + (Q0 : Int)) = (z : Int) := by
  rw [IntKind.wrap_u64, IntKind.wrap_u64]
  omega
theorem Dg.u2 {Y A B u d u2 : Nat} (h : Dg Y A B u d) (hu : u2 = u * 4294967296 + d - dgQ Y u d * Y) : u * 4294967296 + d = dgQ Y u d * Y + u2 ∧ u2 < Y := by
  obtain ⟨h1, h2⟩ := h.rest
  rw [hu]
  refine ⟨?_, h2⟩
  generalize dgQ Y u d * Y = m at *
  omega
end Go.Proofs.Ytldnponbkhgijaa
end
section
/-
  The walk of math/bits.Div64.
-/
namespace Go.Proofs.Ytldnponbkhgijaa
open Go.ChangeShapes Go.WideShapes Go.ChangeAt Go.RowKit
set_option linter.unusedVariables false
set_option linter.unusedSimpArgs false


end Go.Proofs.Ytldnponbkhgijaa
end
section
/-
  The walks of wide.divide and wide.Div.
-/
namespace Go.Proofs.Ytldnponbkhgijaa
open Go.ChangeShapes Go.WideShapes Go.ChangeAt Go.RowKit
set_option linter.unusedVariables false
set_option linter.unusedSimpArgs false


theorem wrap_quo' (u a q : Nat) (hq : q = u / a) (h : u < 18446744073709551616) : IntKind.u64.wrap ((u : Int) / (a : Int)) = (q : Int) := by
  rw [show (u : Int) / (a : Int) = ((u / a : Nat) : Int) from by simp, ← hq, IntKind.wrap_u64]
  have := Nat.div_le_self u a
  omega




/-- what a number without its sign, divided, is in its parts -/
theorem div_parts (x : Int) (hx : In128 x) (d : Nat) (hd0 : 0 < d) (hd : d < 9223372036854775808) (H L R : Nat) (hH : H = szH x / d) (hL : L = (szH x % d * 18446744073709551616 + szL x) / d)
    (hR : R = (szH x % d * 18446744073709551616 + szL x) % d) :
    wrap64 (H : Int) = hiN (((x.natAbs / d : Nat) : Int)) ∧ (L : Int) = loN (((x.natAbs / d : Nat) : Int)) ∧ topN (((x.natAbs / d : Nat) : Int)) = 0 ∧ R = x.natAbs % d ∧ R < d ∧ In128 (-((x.natAbs / d : Nat) : Int)) := by
  have hN : x.natAbs = szH x * 18446744073709551616 + szL x := by unfold szH szL; omega
  have hl : szL x < 18446744073709551616 := by unfold szL; omega
  have hn : x.natAbs ≤ 170141183460469231731687303715884105728 := by unfold In128 at hx; omega
  have hle := Nat.div_le_self x.natAbs d
  have hdm := Nat.div_add_mod (szH x) d
  have key : x.natAbs = d * (szH x / d * 18446744073709551616) + (szH x % d * 18446744073709551616 + szL x) := by
    rw [hN]
    conv => lhs; rw [← hdm]
    rw [Nat.add_mul, Nat.mul_assoc, Nat.add_assoc]
  have hq : x.natAbs / d = H * 18446744073709551616 + L := by
    rw [key, Nat.mul_add_div hd0, ← hH, ← hL]
  have hr : x.natAbs % d = R := by
    rw [key, Nat.mul_add_mod, ← hR]
  have hLl : L < 18446744073709551616 := by
    rw [hL, Nat.div_lt_iff_lt_mul hd0]
    have h5 : szH x % d + 1 ≤ d := Nat.mod_lt _ hd0
    have h6 := Nat.mul_le_mul_left 18446744073709551616 h5
    rw [Nat.mul_add] at h6
    omega
  refine ⟨?_, ?_, ?_, hr.symm, by rw [← hr]; exact Nat.mod_lt _ hd0, ?_⟩
  · rw [hq, wrap64_eq]; unfold hiN; congr 1; omega
  · rw [hq]; unfold loN; omega
  · unfold topN
    rw [IntKind.wrap_i64]
    generalize x.natAbs / d = q at *
    omega
  · unfold In128
    generalize x.natAbs / d = q at *
    omega
end Go.Proofs.Ytldnponbkhgijaa
end
section
/-
  The walk of wide.Div by a number above 0.
-/
namespace Go.Proofs.Ytldnponbkhgijaa
open Go.ChangeShapes Go.WideShapes Go.ChangeAt Go.RowKit
set_option linter.unusedVariables false
set_option linter.unusedSimpArgs false

theorem floor_pos (x : Int) (d : Nat) (h : 0 ≤ x) : x / (d : Int) = ((x.natAbs / d : Nat) : Int) ∧ x % (d : Int) = ((x.natAbs % d : Nat) : Int) := by
  obtain ⟨n, rfl⟩ := Int.eq_ofNat_of_zero_le h
  exact ⟨by simp, by simp⟩
theorem floor_zero (x : Int) (d : Nat) (hd : 0 < d) (h : x < 0) (hr : x.natAbs % d = 0) : x / (d : Int) = -((x.natAbs / d : Nat) : Int) ∧ x % (d : Int) = 0 := by
  have h1 := Nat.div_add_mod x.natAbs d
  rw [hr, Nat.add_zero] at h1
  have hx : x = -((x.natAbs / d : Nat) : Int) * (d : Int) := by
    have : ((d * (x.natAbs / d) : Nat) : Int) = (x.natAbs : Int) := by rw [h1]
    rw [Int.natCast_mul] at this
    rw [Int.neg_mul, Int.mul_comm, this]; omega
  generalize x.natAbs / d = q at *
  refine ⟨?_, ?_⟩
  · rw [hx, Int.mul_ediv_cancel _ (by omega)]
  · rw [hx, Int.mul_emod_left]
theorem floor_neg (x : Int) (d : Nat) (hd : 0 < d) (h : x < 0) (hr : 0 < x.natAbs % d) : x / (d : Int) = -((x.natAbs / d : Nat) : Int) + -1 ∧ x % (d : Int) = (d : Int) - ((x.natAbs % d : Nat) : Int) := by
  have h1 := Nat.div_add_mod x.natAbs d
  have h2 := Nat.mod_lt x.natAbs hd
  have hx : x = ((d : Int) - ((x.natAbs % d : Nat) : Int)) + (-((x.natAbs / d : Nat) : Int) + -1) * (d : Int) := by
    have : ((d * (x.natAbs / d) + x.natAbs % d : Nat) : Int) = (x.natAbs : Int) := by rw [h1]
    rw [Int.natCast_add, Int.natCast_mul] at this
    rw [Int.add_mul, Int.neg_mul, Int.mul_comm ((x.natAbs / d : Nat) : Int)]; omega
  generalize x.natAbs / d = q at *
  generalize x.natAbs % d = r at *
  clear h1
  refine ⟨?_, ?_⟩
  · conv => lhs; rw [hx]
    rw [Int.add_mul_ediv_right _ _ (by omega), Int.ediv_eq_zero_of_lt (by omega) (by omega)]
    omega
  · conv => lhs; rw [hx]
    rw [Int.add_mul_emod_self_right, Int.emod_eq_of_lt (by omega) (by omega)]

end Go.Proofs.Ytldnponbkhgijaa
end
section
/-
  The walks of layer 1, seventh part: Cmp, Sign, Neg; what lives() runs.
-/
namespace Go.Proofs.Ytldnponbkhgijaa
open Go.ChangeShapes Go.WideShapes Go.ChangeAt Go.RowKit
set_option linter.unusedVariables false
set_option linter.unusedSimpArgs false

theorem in128_zero : In128 0 := by unfold In128; omega

set_option maxHeartbeats 2000000 in
theorem wcmp_any (x y : Int) (hx : In128 x) (hy : In128 y) (w : World) :
    Calls Try.prog 162 #[.agg #[.int .i64 (hiN x), .int .u64 (loN x)], .agg #[.int .i64 (hiN y), .int .u64 (loN y)]] w fun e w' => e = .returned (.int .i64 (cmpZ x y)) ∧ Below w.heap.size w w' := by
  have hxs := split_in hx
  have hys := split_in hy
  have lx := lo_nn x
  have ly := lo_nn y
  have lx2 := lo_lt x
  have ly2 := lo_lt y
  have hz : cmpZ x y = if hiN x = hiN y ∧ loN x = loN y then 0 else if hiN x < hiN y ∨ (hiN x = hiN y ∧ loN x < loN y) then -1 else 1 := by
    unfold cmpZ
    by_cases h1 : x = y
    · subst h1; simp
    · have hne : ¬ (hiN x = hiN y ∧ loN x = loN y) := fun h => h1 (parts_inj hx hy h.1 h.2)
      rw [if_neg h1, if_neg hne]
      by_cases h2 : x < y
      · rw [if_pos h2, if_pos (show hiN x < hiN y ∨ (hiN x = hiN y ∧ loN x < loN y) by omega)]
      · rw [if_neg h2, if_neg (show ¬ (hiN x < hiN y ∨ (hiN x = hiN y ∧ loN x < loN y)) by omega)]
  have HZ := Lib.hid hz
  clear hz hxs hys lx ly lx2 ly2
  generalize hiN x = a at *
  generalize hiN y = b at *
  generalize loN x = c at *
  generalize loN y = d at *
  have P1 := (T2.new w a c 28).alloc (.cells #[.int .i64 b, .int .u64 d] 28)
  have P2 : T2 ((w.alloc (.cells #[.int .i64 a, .int .u64 c] 28)).alloc (.cells #[.int .i64 b, .int .u64 d] 28)) (w.heap.size + 1) b d := by
    have := T2.new (w.alloc (.cells #[.int .i64 a, .int .u64 c] 28)) b d 28
    rwa [World.size_alloc] at this
  have hB := since_alloc (since_alloc (Below.refl _ w) (.cells #[.int .i64 a, .int .u64 c] 28)) (.cells #[.int .i64 b, .int .u64 d] 28)
  go_enter Try.func162, Try.ntmps162
  go_upto_region 1 with fail
  generalize (w.alloc (.cells #[.int .i64 a, .int .u64 c] 28)).alloc (.cells #[.int .i64 b, .int .u64 d] 28) = W at *
  obtain ⟨p0, p1, p2, p3, p4⟩ := P1
  obtain ⟨q0, q1, q2, q3, q4⟩ := P2
  by_cases h1 : a = b
  · subst h1
    by_cases h2 : c = d
    · subst h2
      go_wp2
      go_ret
      exact ⟨by rw [HZ.out]; simp, hB⟩
    · have k1 : (c == d) = false := by simp; exact h2
      have k2 : decide (a < a) = false := by simp
      by_cases h3 : c < d
      · have k3 : decide (c < d) = true := decide_eq_true h3
        go_wp2
        go_ret
        exact ⟨by rw [HZ.out]; simp; omega, hB⟩
      · have k3 : decide (c < d) = false := decide_eq_false h3
        go_wp2
        go_ret
        exact ⟨by rw [HZ.out]; simp; omega, hB⟩
  · have k1 : (a == b) = false := by simp; exact h1
    by_cases h3 : a < b
    · have k3 : decide (a < b) = true := decide_eq_true h3
      go_wp2
      go_ret
      exact ⟨by rw [HZ.out]; simp; omega, hB⟩
    · have k3 : decide (a < b) = false := decide_eq_false h3
      go_wp2
      go_ret
      exact ⟨by rw [HZ.out]; simp; omega, hB⟩

set_option maxHeartbeats 1000000 in
theorem wsign_any (x : Int) (hx : In128 x) (w : World) :
    Calls Try.prog 104 #[.agg #[.int .i64 (hiN x), .int .u64 (loN x)]] w fun e w' => e = .returned (.int .i64 (cmpZ x 0)) ∧ Below w.heap.size w w' := by
  have HC := Lib.hid (fun w => wcmp_any x 0 hx in128_zero w)
  obtain ⟨z1, z2, z3⟩ := zero_parts
  rw [z1, z2] at HC
  go_enter Try.func104, Try.ntmps104
  go_wp2_with fail
  refine (HC.out _).mono ?_
  rintro e w1 ⟨rfl, hb1⟩
  have hB1 := since_step (since_alloc (Below.refl _ w) _) hb1
  go_wp2_with fail
  go_ret
  exact ⟨rfl, hB1⟩




end Go.Proofs.Ytldnponbkhgijaa
end
section
/-
  The document's wide numbers: Wide, Int; the law's big, is.
-/
namespace Go.Proofs.Ytldnponbkhgijaa
open Go.ChangeShapes Go.WideShapes Go.ChangeAt Go.RowKit
set_option linter.unusedVariables false
set_option linter.unusedSimpArgs false

theorem BB.set1 {w : World} {g : Nat} {s : Bool} {A : Option Addr} {n c : Nat} (h : BB w g s A n c) (A' : Option Addr) (n' c' : Nat) : BB (w.setCell ⟨g, 1, none⟩ (.slice A' n' c')) g s A' n' c' := by
  obtain ⟨h0, h1, h2, f1, f2⟩ := h
  refine ⟨by simpa using h0, ?_, ?_, by simpa using f1, by simpa using f2⟩ <;> simp [cell_set, h1, h2]
theorem norm_cons0 {R : List Nat} (h : Norm R) (h0 : R ≠ []) : Norm (0 :: R) := by
  refine ⟨bin_cons0 h.1, fun k hk hl => ?_⟩
  cases k with
  | zero => simp at hl; exact absurd hl h0
  | succ k =>
    simp at hk hl
    simpa using h.2 k hk hl
/-- twice a number that is none of 0 -/
theorem BigAt.twice {w w' : World} {s : Bool} {A A' : Option Addr} {n c c' : Nat} {z : Int} {bits : List Nat} (hl : bits.length = n) (hN : Norm bits) (hs : s = true → bits ≠ []) (hz : z = if s = true then -(bval bits : Int) else (bval bits : Int))
    (h0 : 0 < n) (hr : Sl w' A' (by8 (0 :: bits))) (hc : n + 1 ≤ c' ∧ c' ≤ maxLen) : BigAt w' s A' (n + 1) c' (2 * z) := by
  refine ⟨0 :: bits, by simp [hl], hc.1, hc.2, hr, norm_cons0 hN (by intro e; rw [e] at hl; simp at hl; omega), fun _ => by simp, ?_⟩
  rw [hz]
  cases s <;> simp [bval] <;> omega

set_option maxRecDepth 100000 in
set_option maxHeartbeats 8000000 in
theorem rwide_any (x : Int) (hx : In128 x) (w : World) :
    Calls Try.prog 21 #[.int .i64 (hiN x), .int .u64 (loN x)] w fun e w' => bigR w w' e x ∧ Below w.heap.size w w' := by
  have hsp := split_in hx
  have hh := hi_rng x
  have l1 := lo_nn x
  have l2 := lo_lt x
  obtain ⟨l, hl⟩ := Int.eq_ofNat_of_zero_le l1
  rw [hl] at hsp l2 ⊢
  clear l1 hl hx
  generalize hiN x = h at *
  have hcs := @cell_set
  have HSP := Lib.hid hsp
  clear hsp
  have P4 : BB (w.alloc (.cells #[.bool false, .slice none 0 0] 35)) w.heap.size false none 0 0 := BB.new _ _ _ _ _ _
  go_enter Try.func21, Try.ntmps21
  go_wp2_with fail
  refine (bof_any h _ hh).mono ?_
  rintro e w1 ⟨⟨s, A, n, c, rfl, hf1, X1⟩, hb1⟩
  have n64 : n ≤ 64 := (X1.len (k := 64)).2 (by simp; omega)
  have Q1 := (P4.below hb1).alloc (.cells #[.bool s, .slice A n c] 35)
  have hB1 := since_alloc (since_step (since_alloc (Below.refl _ w) _) hb1) (.cells #[.bool s, .slice A n c] 35)
  have G1 := BB.new w1 s A n c 35
  have X2 := X1.alloc (.cells #[.bool s, .slice A n c] 35)
  have hlt := X1.lt
  have hg : w.heap.size < w1.heap.size := by have := (P4.below hb1).1; exact this
  have hf1' : Fr (w.heap.size + 1) A n := by simpa using hf1
  clear hb1 X1 P4 hf1
  go_upto_region 2 with fail
  have hgW := G1.1
  generalize w1.alloc (.cells #[.bool s, .slice A n c] 35) = W at *
  go_wp2_with fail
  go_loopw [6] (fun i wr => ∃ (k : Nat) (A5 : Option Addr) (n5 c5 : Nat), i = .int .i64 k ∧ k ≤ 64 ∧ n5 ≤ 64 + k ∧ BB wr w1.heap.size s A5 n5 c5 ∧ BigAt wr s A5 n5 c5 (h * 2 ^ k) ∧ BB wr w.heap.size false none 0 0 ∧
      (∀ b o, A5 = some ⟨b, o, none⟩ → 0 < n5 → b ≠ w1.heap.size) ∧ Fr (w.heap.size + 1) A5 n5 ∧ Below w.heap.size w wr) (fun i _ => 64 - (intOf i).toNat)
  case atStart => exact ⟨0, A, n, c, rfl, by omega, by omega, G1, by simpa using X2, Q1, fun b o hA h0 => by have := hlt b o hA h0; omega, hf1', hB1⟩
  case round =>
    obtain ⟨k, A5, n5, c5, rfl, hk, hn5, G, X, Q, hne, hfr, hB⟩ := hrel
    obtain ⟨g0, g1, g2, g3, g4⟩ := _root_.id G
    obtain ⟨q0, q1, q2, q3, q4⟩ := _root_.id Q
    have done : 64 ≤ k ∨ n5 = 0 → h * 2 ^ k = h * 18446744073709551616 := by
      rintro (h1 | h1)
      · obtain rfl : k = 64 := by omega
        rfl
      · have h2 := X.len.1 (Nat.le_of_eq h1)
        have h3 : h * 2 ^ k = 0 := by simp at h2; omega
        have h4 : h = 0 := by
          rcases Int.mul_eq_zero.1 h3 with h5 | h5
          · exact h5
          · exfalso
            have : (0 : Int) < 2 ^ k := Int.pow_pos (by omega)
            omega
        rw [h4]; simp
    have DONE := Lib.hid done
    clear done
    by_cases hlk : k < 64
    · have d1 : decide ((k : Int) < 64) = true := decide_eq_true (by omega)
      have d1' : decide (k < 64) = true := decide_eq_true hlk
      by_cases hn0 : 0 < n5
      · have d2 : decide (0 < (n5 : Int)) = true := decide_eq_true (by omega)
        have d2' : decide (0 < n5) = true := decide_eq_true hn0
        obtain ⟨R, r1, r2, r3, r4, r5, r6, r7⟩ := X.ex
        have R7 := Lib.hid (show BigAt wr s A5 n5 c5 (h * 2 ^ k) ∧ R.length = n5 ∧ Norm R ∧ (s = true → R ≠ []) ∧ h * 2 ^ k = (if s = true then -(bval R : Int) else (bval R : Int)) from ⟨X, r1, r5, r6, r7⟩)
        clear r7 X r6
        go_wp2_with (first
          | (at_builtin; refine wpList_app rfl (.tmp 20) (.tmp 21) rfl EU rfl rfl (own_nil wr.heap.size _ _) (m := 1) (news := by8 [0]) rfl (Sl.new_ _ _ _) (by8_one _) (by decide) (by decide) (by simp) ?_; intro A8 c8 w8 hown8 hg8 hb8; have hb8' : Below wr.heap.size wr w8 := (since_alloc (Below.refl _ _) _).trans hb8; have hr8 := r4.below hb8'; have hz8 := hb8'.size; obtain ⟨u0, u1, u2, u3, u4⟩ := G.below hb8')
          | (at_builtin; refine wpList_app rfl (.tmp 23) (.tmp 25) rfl EU rfl rfl hown8 (m := n5) (news := by8 R) (by rw [by8_length, Nat.mul_one]; exact r1) hr8 (by8_one _) (by unfold maxLen; omega) (by omega) hz8 ?_; intro A9 c9 w9 hown9 hg9 hb9; have hb9' : Below wr.heap.size wr w9 := hb8'.trans hb9; obtain ⟨v0, v1, v2, v3, v4⟩ := G.below hb9')
          | fail)
        have hr9 : Sl w9 A9 (by8 (0 :: R)) := by
          have := Sl.of_own hown9
          simpa [by8] using this
        have hc9 := own_cap' hown9
        have hf9 := Fr.own hown9
        have hwr := hB.size
        have G9 := (G.below hb9').set1 A9 (1 + n5) c9
        have Q9 := (Q.below hb9').far (p := ⟨w1.heap.size, 1, none⟩) (by simp; omega) (.slice A9 (1 + n5) c9)
        have hB9 : Below w.heap.size w (w9.setCell ⟨w1.heap.size, 1, none⟩ (.slice A9 (1 + n5) c9)) := (hB.trans (hb9'.mono hB.size)).setCell (by simp; omega) _
        have hgr : w1.heap.size < wr.heap.size := G.1
        have X9 : BigAt (w9.setCell ⟨w1.heap.size, 1, none⟩ (.slice A9 (1 + n5) c9)) s A9 (1 + n5) c9 (h * 2 ^ (k + 1)) := by
          obtain ⟨X0, e1, e2, e3, e4⟩ := R7.out
          have h9 := BigAt.twice (w := wr) (A := A5) (c := c5) (c' := c9) e1 e2 e3 e4 hn0 hr9 (by omega)
          rw [show n5 + 1 = 1 + n5 from by omega] at h9
          have e5 : h * 2 ^ (k + 1) = 2 * (h * 2 ^ k) := by rw [Int.pow_succ]; rw [← Int.mul_assoc]; omega
          rw [e5]
          exact h9.far (p := ⟨w1.heap.size, 1, none⟩) (fun b o hA h0 => by have := hf9 b o hA h0; simp; omega) _
        go_roundw
        case rel =>
          exact ⟨k + 1, A9, 1 + n5, c9, by go_num, by omega, by omega, G9, X9, Q9, fun b o hA h0 => by have := hf9 b o hA h0; omega, hf9.le (by omega) (Nat.le_refl _), hB9⟩
        case measure => simp [intOf]; omega
      · have hn00 : n5 = 0 := by omega
        have d2 : decide (0 < (n5 : Int)) = false := decide_eq_false (by omega)
        have d2' : decide (0 < n5) = false := decide_eq_false hn0
        have HZ := Lib.hid (DONE.out (Or.inr hn00))
        clear hn00 hn0
        go_upto_region 8 with fail
        rw [HZ.out] at X
        go_region_with (first
          | (go_at_call 85; refine (nat_any l _ (by omega)).mono ?_; rintro e w6 ⟨⟨A6, n6, c6, rfl, hf6, X6⟩, hb6⟩; have G6 := G.drew.below hb6; have Q6 := Q.drew.below hb6; have Z6 := X.drew.below hb6; have hB6 := since_step hB.drew hb6; have n6l : n6 ≤ 64 := (X6.len (k := 64)).2 (by simp; omega); obtain ⟨u0, u1, u2, u3, u4⟩ := _root_.id G6; clear hb6)
          | (go_at_call 52; refine (badd' (by omega) (by omega) Z6 X6).mono ?_; rintro e w7 ⟨⟨s7, A10, n7, d7, rfl, hf7, Z7⟩, hb7⟩; have Q7 := Q6.below hb7; have hB7 := since_step hB6 hb7; obtain ⟨v0, v1, v2, v3, v4⟩ := _root_.id Q7; clear hb7))
        all_goals
          have hw6 := Q6.1
          have hWs : w.heap.size ≤ w6.heap.size := hB6.size
          go_wp2_with fail
          refine bodyPost_ret (v := .agg #[.bool s7, .slice A10 n7 d7]) ?_ rfl ?_
          · simp [results, Try.results21, go_sem, cell_set, v1, v2]
          · refine ⟨⟨s7, A10, n7, d7, rfl, hf7.le hWs (Nat.le_refl _), ?_⟩, ?_⟩
            · rw [HSP.out]; exact (Z7.far (fun b o hA h0 => by have := hf7 b o hA h0; simp; omega) _).far (fun b o hA h0 => by have := hf7 b o hA h0; simp; omega) _
            · repeat' (first | with_reducible exact hB7 | with_reducible refine Below.setCell ?_ ?_ _)
              all_goals first | (simp; done) | (simp; omega)
    · have d1 : decide ((k : Int) < 64) = false := decide_eq_false (by omega)
      have d1' : decide (k < 64) = false := decide_eq_false hlk
      have HZ := Lib.hid (DONE.out (Or.inl (by omega)))
      go_upto_region 8 with fail
      rw [HZ.out] at X
      go_region_with (first
        | (go_at_call 85; refine (nat_any l _ (by omega)).mono ?_; rintro e w6 ⟨⟨A6, n6, c6, rfl, hf6, X6⟩, hb6⟩; have G6 := G.drew.below hb6; have Q6 := Q.drew.below hb6; have Z6 := X.drew.below hb6; have hB6 := since_step hB.drew hb6; have n6l : n6 ≤ 64 := (X6.len (k := 64)).2 (by simp; omega); obtain ⟨u0, u1, u2, u3, u4⟩ := _root_.id G6; clear hb6)
        | (go_at_call 52; refine (badd' (by omega) (by omega) Z6 X6).mono ?_; rintro e w7 ⟨⟨s7, A10, n7, d7, rfl, hf7, Z7⟩, hb7⟩; have Q7 := Q6.below hb7; have hB7 := since_step hB6 hb7; obtain ⟨v0, v1, v2, v3, v4⟩ := _root_.id Q7; clear hb7))
      all_goals
        have hw6 := Q6.1
        have hWs : w.heap.size ≤ w6.heap.size := hB6.size
        go_wp2_with fail
        refine bodyPost_ret (v := .agg #[.bool s7, .slice A10 n7 d7]) ?_ rfl ?_
        · simp [results, Try.results21, go_sem, cell_set, v1, v2]
        · refine ⟨⟨s7, A10, n7, d7, rfl, hf7.le hWs (Nat.le_refl _), ?_⟩, ?_⟩
          · rw [HSP.out]; exact (Z7.far (fun b o hA h0 => by have := hf7 b o hA h0; simp; omega) _).far (fun b o hA h0 => by have := hf7 b o hA h0; simp; omega) _
          · repeat' (first | with_reducible exact hB7 | with_reducible refine Below.setCell ?_ ?_ _)
            all_goals first | (simp; done) | (simp; omega)
end Go.Proofs.Ytldnponbkhgijaa
end
