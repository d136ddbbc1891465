/-
  The walks of layer 2: Sum, Product.
-/
import Derived.Test.YtfagpdnckmaomaaWide7
import Derived.Deep.RegionHeld3
import Derived.Deep.DeepCutAuto
namespace Go.Proofs.Ytfagpdnckmaomaa
open Go.ChangeShapes Go.WideShapes Go.ChangeAt Go.RowKit
set_option linter.unusedVariables false
set_option linter.unusedSimpArgs false

def All64 (l : List Int) : Prop := ∀ x ∈ l, In64 x
theorem sum_bound (l : List Int) (h : All64 l) : -(l.length : Int) * 9223372036854775808 ≤ l.sum ∧ l.sum ≤ (l.length : Int) * 9223372036854775808 := by
  induction l with
  | nil => simp
  | cons a m ih =>
    have h1 := ih (fun x hx => h x (by simp [hx]))
    have h2 := h a (by simp)
    unfold In64 at h2
    simp only [List.length_cons, List.sum_cons]
    omega
theorem sum_in128 (l : List Int) (h : All64 l) (hl : l.length ≤ 1000000) : In128 l.sum := by
  have := sum_bound l h
  unfold In128
  omega
theorem two_cells (x y : Int) : wcells [x, y] = [.int .i64 (hiN x), .int .u64 (loN x), .int .i64 (hiN y), .int .u64 (loN y)] := rfl

set_option maxHeartbeats 1000000 in
theorem fsub_any (a b : Int) (ha : In64 a) (hb : In64 b) (w : World) :
    Calls Try.prog 68 #[.int .i64 a, .int .i64 b] w fun e w' => e = .returned (.tuple #[.int .i64 (fV (a - b)), .int .i64 (fE (a - b))]) ∧ Below w.heap.size w w' := by
  have ha128 := (of_in a ha).2.2
  have hb128 := (of_in b hb).2.2
  have hin : In128 (a + -b) := by unfold In64 at ha hb; unfold In128; omega
  have HE := Lib.hid (wideE_yes hin)
  have HS := Lib.hid (show a + -b = a - b by omega)
  go_enter Try.func68, Try.ntmps68
  go_wp2_with fail
  refine (wof_any a ha _).mono ?_
  rintro e w1 ⟨rfl, hb1⟩
  have hB1 := since_step (Below.refl _ _) hb1
  clear hb1
  go_wp2_with fail
  refine (wof_any b hb _).mono ?_
  rintro e w2 ⟨rfl, hb2⟩
  have hB2 := since_step hB1 hb2
  clear hb2 hB1
  go_wp2_with fail
  refine (wsub_any a b ha128 hb128 _).mono ?_
  rintro e w3 ⟨rfl, hb3⟩
  have hB3 := since_step hB2 hb3
  rw [HE.out]
  clear hb3 hB2
  go_wp2_with fail
  refine (int_any (a + -b) hin _).mono ?_
  rintro e w4 ⟨rfl, hb4⟩
  have hB4 := since_step (since_alloc hB3 _) hb4
  rw [HS.out]
  clear hb4 hB3
  go_wp2_with fail
  go_ret2
  exact ⟨rfl, hB4⟩

set_option maxHeartbeats 8000000 in
theorem fsum_any (A : Option Addr) (cap : Nat) (l : List Int) (w : World) (hl : l.length ≤ 1000000) (hx : All64 l) (hs : Sl w A (ints .i64 l)) :
    Calls Try.prog 66 #[.slice A l.length cap] w fun e w' => e = .returned (.tuple #[.int .i64 (fV l.sum), .int .i64 (fE l.sum)]) ∧ Below w.heap.size w w' := by
  obtain ⟨z1, z2, z3⟩ := zero_parts
  go_enter Try.func66, Try.ntmps66
  go_wp2
  go_loopw [11] (fun i wr => ∃ k : Nat, k ≤ l.length ∧ i = .int .i64 k ∧ T2 wr w.heap.size (hiN (l.take k).sum) (loN (l.take k).sum) ∧ Below w.heap.size w wr) (fun i _ => l.length - (intOf i).toNat)
  case atStart =>
    refine ⟨0, by omega, rfl, ?_, (Below.refl _ _).alloc (Nat.le_refl _) _⟩
    simp only [List.take_zero, List.sum_nil, z1, z2]
    exact T2.new w 0 0 _
  case round =>
    obtain ⟨k, hk, rfl, ht, hB⟩ := hrel
    by_cases hlt : k < l.length
    · obtain ⟨b, o, rfl, hzw⟩ := hs.int hlt
      have hbw : b < w.heap.size := World.block_lt_of_cell? _ _ hzw
      have hz := (hB.cell (p := ⟨b, o + k, none⟩) hbw).trans hzw
      have hbr : b < wr.heap.size := Nat.lt_of_lt_of_le hbw hB.size
      have hsum : (l.take (k + 1)).sum = (l.take k).sum + l[k] := by rw [take_snoc l k hlt, List.sum_append]; simp
      have h1 : In128 (l.take k).sum := sum_in128 _ (fun x h => hx x (List.mem_of_mem_take h)) (by simp; omega)
      have h2 : In128 (l.take (k + 1)).sum := sum_in128 _ (fun x h => hx x (List.mem_of_mem_take h)) (by simp; omega)
      have hin := hx _ (List.getElem_mem hlt)
      rw [hsum] at h2
      have HS := Lib.hid hsum
      clear hsum
      generalize l[k] = x at *
      generalize (l.take k).sum = y at *
      have HE := Lib.hid (wideE_yes h2)
      obtain ⟨a0, a1, a2, f1, f2⟩ := id ht
      have hcs := @cell_set
      have HTW := Lib.hid ht
      go_upto_region 5 with fail
      go_cut [7, 8] (fun s7 s8 wx => ∃ g : Nat, s7 = .pointer (some ⟨g, 0, none⟩) ∧ s8 = .int .i64 0 ∧ T2 wx g (hiN (y + x)) (loN (y + x)) ∧ T2 wx w.heap.size (hiN y) (loN y) ∧ g ≠ w.heap.size ∧ Below w.heap.size w wx)
      case first =>
        go_region_with (first
          | (go_at_call 74; refine (wof_any x hin _).mono ?_; rintro e w1 ⟨rfl, hb1⟩; have hT1 : T2 w1 w.heap.size (hiN y) (loN y) := (by first | exact ht.drew.below hb1 | exact (ht.drew.alloc _).below hb1); have hB1 : Below w.heap.size w w1 := (by first | exact since_step hB.drew hb1 | exact since_step (since_alloc hB.drew _) hb1); (first | have G1 : T2 w1 wr.heap.size 0 0 := (T2.new wr.drew 0 0 52).below hb1 | skip); have hz1 : wr.heap.size ≤ w1.heap.size := (by have := hb1.size; simp at this; omega); obtain ⟨b0, b1, b2, b3, b4⟩ := id hT1; clear hb1)
          | (go_at_call 75; refine (wadd_any _ 2 [y, x] _ (by simp) (by intro z hz; simp at hz; rcases hz with rfl | rfl; exact h1; exact (of_in _ hin).2.2) (by first | exact Sl.new_ _ _ _ | exact (Sl.new_ _ _ _).alloc _ | exact Sl.new1 _ _ _ _)).mono ?_; rintro e w2 ⟨rfl, hb2⟩; have hT2 : T2 w2 w.heap.size (hiN y) (loN y) := (by first | exact (hT1.alloc _).below hb2 | exact ((hT1.alloc _).alloc _).below hb2); have hB2 : Below w.heap.size w w2 := (by first | exact since_step (since_alloc hB1 _) hb2 | exact since_step (since_alloc (since_alloc hB1 _) _) hb2); (first | have G2 := (G1.alloc _).below hb2 | have G2 := ((T2.new w1 0 0 52).alloc _).below hb2 | (have G2 := (T2.new (w1.alloc (.cells #[.int .i64 (hiN y), .int .u64 (loN y), .int .i64 (hiN x), .int .u64 (loN x)] 52)) 0 0 52).below hb2; rw [World.size_alloc] at G2) | skip); (first | obtain ⟨g0, g1, g2, g3, g4⟩ := _root_.id G2 | skip); rw [show [y, x].sum = y + x from by simp, HE.out]; have hz2 : w1.heap.size < w2.heap.size := (by have := hb2.size; simp at this; omega); clear hb2))
        all_goals
          go_wp2_with fail
          go_meet
          case rel =>
            first
              | exact ⟨_, rfl, rfl, G2.set2 _ _, (hT2.far (by simp; omega) _).far (by simp; omega) _, by simp; omega, by
                  refine Below.setCell (Below.setCell hB2 ?_ _) ?_ _ <;> (simp; omega)⟩
              | exact ⟨_, rfl, rfl, T2.new _ _ _ _, hT2.alloc _, by simp; omega, since_alloc hB2 _⟩
      case rest =>
        obtain ⟨g, rfl, rfl, hG, hT, hne, hBx⟩ := hcut
        obtain ⟨g0, g1, g2, g3, g4⟩ := id hG
        obtain ⟨t0, t1, t2, t3, t4⟩ := id hT
        clear hz ht a0 a1 a2 f1 f2
        go_wp2
        go_roundw
        case rel =>
          refine ⟨k + 1, by omega, by go_num, ?_, ?_⟩
          · rw [HS.out]
            exact hT.set2 _ _
          · refine Below.setCell (Below.setCell hBx ?_ _) ?_ _ <;> simp
        case measure => simp [intOf]; omega
    · obtain rfl : k = l.length := by omega
      rw [List.take_length] at ht
      have h128 := sum_in128 l hx hl
      obtain ⟨a0, a1, a2, f1, f2⟩ := id ht
      go_wp2_with fail
      refine (int_any l.sum h128 _).mono ?_
      rintro e w1 ⟨rfl, hb1⟩
      have hB1 := since_step hB hb1
      go_wp2_with fail
      go_ret2
      exact ⟨rfl, hB1⟩
end Go.Proofs.Ytfagpdnckmaomaa
