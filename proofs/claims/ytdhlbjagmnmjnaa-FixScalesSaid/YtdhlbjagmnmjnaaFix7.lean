/-
  The walks of layer 2, seventh part: the document's Product.
-/
import Derived.Test.YtdhlbjagmnmjnaaFix6
namespace Go.Proofs.Ytdhlbjagmnmjnaa
open Go.ChangeShapes Go.WideShapes Go.ChangeAt Go.RowKit
set_option linter.unusedVariables false
set_option linter.unusedSimpArgs false

def prodR (w' : World) (e : Ending) (l : List Int) : Prop := ∃ s A n c z, e = .returned (.tuple #[.agg #[.bool s, .slice A n c], .bool (prods l).isSome]) ∧ BigAt w' s A n c z ∧ n ≤ 200 ∧ ∀ p, prods l = some p → z = p

set_option maxRecDepth 100000 in
set_option maxHeartbeats 8000000 in
theorem rprod_any (A : Option Addr) (cap : Nat) (l : List Int) (w : World) (hl : l.length ≤ 1000) (hx : All64 l) (hs : Sl w A (ints .i64 l)) :
    Calls Try.prog 11 #[.slice A l.length cap] w fun e w' => prodR w' e l ∧ Below w.heap.size w w' := by
  have hcs := @cell_set
  go_enter Try.func11, Try.ntmps11
  go_wp2_with fail
  refine (nat_any 1 _ (by decide)).mono ?_
  rintro e w1 ⟨⟨A0, n0, c0, rfl, hfr0, hbig0⟩, hb1⟩
  have hQ0 := (BB.new w false none 0 0 30).below hb1
  have hB1 := since_step (since_alloc (Below.refl w.heap.size w) _) hb1
  have hg : w.heap.size < w1.heap.size := hQ0.1
  clear hb1
  go_wp2_with fail
  go_loopw [5] (fun i wr => ∃ (k : Nat) (p : Int) (s : Bool) (A1 : Option Addr) (n1 c1 : Nat), i = .int .i64 k ∧ k ≤ l.length ∧ BB wr w1.heap.size s A1 n1 c1 ∧ BB wr w.heap.size false none 0 0 ∧ BigAt wr s A1 n1 c1 p ∧ In64 p ∧ prods (l.take k) = some p ∧ Fr (w.heap.size + 1) A1 n1 ∧ Below w.heap.size w wr) (fun i _ => l.length - (intOf i).toNat)
  case atStart =>
    refine ⟨0, 1, false, A0, n0, c0, rfl, by omega, BB.new _ _ _ _ _ _, hQ0.alloc _, hbig0.alloc _, by decide, rfl, ?_, since_alloc hB1 _⟩
    have := hfr0
    simpa using this
  case round =>
    obtain ⟨k, p, s, A1, n1, c1, rfl, hk, hP, hQ, hZ, hp, hpr, hfr, hB⟩ := hrel
    obtain ⟨p0, p1, p2, p3, p4⟩ := _root_.id hP
    obtain ⟨q0, q1, q2, q3, q4⟩ := _root_.id hQ
    have hn1 : n1 ≤ 64 := (hZ.len (k := 64)).2 (by unfold In64 at hp; simp; omega)
    by_cases hlt : k < l.length
    · obtain ⟨b, o, rfl, hz⟩ := (hs.below hB).int hlt
      have hbr := World.block_lt_of_cell? _ _ hz
      have hin := hx _ (List.getElem_mem hlt)
      have hst := prods_take l k hlt
      rw [hpr] at hst
      generalize l[k] = x at *
      have HST := Lib.hid hst
      clear hst hpr q0 q1 q2 q3 q4
      go_wp2
      go_region_with (first
        | (go_at_call 13; refine (bof_any x wr.drew hin).mono ?_; rintro e w2 ⟨⟨s2, A2, n2, c2, rfl, hfr2, hbig2⟩, hb2⟩; have hP2 := hP.drew.below hb2; have hQ2 := hQ.drew.below hb2; have hZ2 := hZ.drew.below hb2; have hB2 := since_step hB.drew hb2; have hn2 : n2 ≤ 64 := (hbig2.len (k := 64)).2 (by unfold In64 at hin; simp; omega); obtain ⟨r0, r1, r2, r3, r4⟩ := _root_.id hP2; clear hb2)
        | (go_at_call 20; refine (bmul_any p x s s2 A1 A2 n1 c1 n2 c2 w2 (by omega) (by omega) hZ2 hbig2).mono ?_; rintro e w3 ⟨⟨s3, A3, n3, c3, rfl, hfr3, hbig3⟩, hb3⟩; have hP3 := hP2.below hb3; have hQ3 := hQ2.below hb3; have hB3 := since_step hB2 hb3; have hz3 := hP2.1; have hn3 := len_mul hZ2 hbig2 hbig3; obtain ⟨t0, t1, t2, t3, t4⟩ := _root_.id hP3; obtain ⟨q0, q1, q2, q3, q4⟩ := _root_.id hQ3; clear hb3))
      all_goals
        have hP4 := hP3.set2 s3 A3 n3 c3
        have hQ4 := (hQ3.far (p := ⟨w1.heap.size, 0, none⟩) (by simp; omega) (.bool s3)).far (p := ⟨w1.heap.size, 1, none⟩) (by simp; omega) (.slice A3 n3 c3)
        have hZ4 := (hbig3.far (p := ⟨w1.heap.size, 0, none⟩) (fun b o hA h0 => by have := hfr3 b o hA h0; simp; omega) (.bool s3)).far (p := ⟨w1.heap.size, 1, none⟩) (fun b o hA h0 => by have := hfr3 b o hA h0; simp; omega) (.slice A3 n3 c3)
        have hB4 : Below w.heap.size w ((w3.setCell ⟨w1.heap.size, 0, none⟩ (.bool s3)).setCell ⟨w1.heap.size, 1, none⟩ (.slice A3 n3 c3)) := by
          refine Below.setCell (Below.setCell hB3 ?_ _) ?_ _ <;> (simp; omega)
        have hfr4 : Fr (w.heap.size + 1) A3 n3 := hfr3.le (by omega) (Nat.le_refl _)
        by_cases h64 : In64 (p * x)
        · have HF := Lib.hid (show decide (inN (p * x) 63) = true from decide_eq_true ((in64_iff _).2 h64))
          have HP := Lib.hid (show prods (l.take (k + 1)) = some (p * x) by rw [HST.out]; exact if_pos h64)
          go_wp2_with fail
          refine (bfits_any (p * x) s3 A3 n3 c3 _ (by omega) hZ4).mono ?_
          rintro e w5 ⟨rfl, hb5⟩
          rw [HF.out]
          have hB5 := since_step hB4 hb5
          go_wp2_with fail
          go_roundw
          case rel => exact ⟨k + 1, p * x, s3, A3, n3, c3, by go_num, by omega, hP4.below hb5, hQ4.below hb5, hZ4.below hb5, h64, HP.out, hfr4, hB5⟩
          case measure => simp [intOf]; omega
        · have HF := Lib.hid (show decide (inN (p * x) 63) = false from decide_eq_false fun g => h64 ((in64_iff _).1 g))
          have HP := Lib.hid (prods_none (l := l) (k := k + 1) (by rw [HST.out]; exact if_neg h64))
          go_wp2_with fail
          refine (bfits_any (p * x) s3 A3 n3 c3 _ (by omega) hZ4).mono ?_
          rintro e w5 ⟨rfl, hb5⟩
          rw [HF.out]
          have hB5 := since_step hB4 hb5
          have hZ5 := hZ4.below hb5
          obtain ⟨v0, v1, v2, v3, v4⟩ := hP4.below hb5
          obtain ⟨u0, u1, u2, u3, u4⟩ := hQ4.below hb5
          go_wp2
          refine bodyPost_ret (v := .tuple #[.agg #[.bool s3, .slice A3 n3 c3], .bool false]) ?_ rfl ?_
          · simp [results, Try.results11, go_sem, cell_set, u1, u2]
          · refine ⟨⟨s3, A3, n3, c3, p * x, by rw [HP.out]; rfl, ?_, by omega, fun q hq => by rw [HP.out] at hq; cases hq⟩, ?_⟩
            · exact (hZ5.far (fun b o hA h0 => by have := hfr4 b o hA h0; simp; omega) _).far (fun b o hA h0 => by have := hfr4 b o hA h0; simp; omega) _
            · repeat' (first | with_reducible exact hB5 | with_reducible refine Below.setCell ?_ ?_ _)
              all_goals first | (simp; done) | (simp; omega)
    · obtain rfl : k = l.length := by omega
      rw [List.take_length] at hpr
      have HP := Lib.hid hpr
      clear hpr
      go_wp2
      refine bodyPost_ret (v := .tuple #[.agg #[.bool s, .slice A1 n1 c1], .bool true]) ?_ rfl ?_
      · simp [results, Try.results11, go_sem, cell_set, q1, q2]
      · refine ⟨⟨s, A1, n1, c1, p, by rw [HP.out]; rfl, ?_, by omega, fun q hq => by rw [HP.out] at hq; injection hq⟩, ?_⟩
        · exact (hZ.far (fun b o hA h0 => by have := hfr b o hA h0; simp; omega) _).far (fun b o hA h0 => by have := hfr b o hA h0; simp; omega) _
        · repeat' (first | with_reducible exact hB | with_reducible refine Below.setCell ?_ ?_ _)
          all_goals first | (simp; done) | (simp; omega)
end Go.Proofs.Ytdhlbjagmnmjnaa
