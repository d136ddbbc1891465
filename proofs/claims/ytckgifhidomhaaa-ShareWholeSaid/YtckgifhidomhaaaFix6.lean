/-
  The walks of layer 2, sixth part: the document's Sum.
-/
import Derived.Test.YtckgifhidomhaaaFix5
namespace Go.Proofs.Ytckgifhidomhaaa
open Go.ChangeShapes Go.WideShapes Go.ChangeAt Go.RowKit
set_option linter.unusedVariables false
set_option linter.unusedSimpArgs false

set_option maxRecDepth 100000 in
set_option maxHeartbeats 8000000 in
theorem rsum_any (A : Option Addr) (cap : Nat) (l : List Int) (w : World) (hl : l.length ≤ 1000) (hx : All64 l) (hs : Sl w A (ints .i64 l)) :
    Calls Try.prog 20 #[.slice A l.length cap] w fun e w' => bigR w w' e l.sum ∧ Below w.heap.size w w' := by
  have hcs := @cell_set
  go_enter Try.func20, Try.ntmps20
  go_wp2
  go_loopw [4] (fun i wr => ∃ (k : Nat) (s : Bool) (A1 : Option Addr) (n1 c1 : Nat), i = .int .i64 k ∧ k ≤ l.length ∧ BB wr (w.heap.size + 1) s A1 n1 c1 ∧ BB wr w.heap.size false none 0 0 ∧ BigAt wr s A1 n1 c1 (l.take k).sum ∧ n1 ≤ 64 + k ∧ Fr (w.heap.size + 2) A1 n1 ∧ Below w.heap.size w wr) (fun i _ => l.length - (intOf i).toNat)
  case atStart =>
    refine ⟨0, false, none, 0, 0, rfl, by omega, ?_, (BB.new _ _ _ _ _ _).alloc _, BigAt.zero _, by omega, (fun b o h => nomatch h), since_alloc (since_alloc (Below.refl _ _) _) _⟩
    have := BB.new (w.alloc (.cells #[.bool false, .slice none 0 0] 39)) false none 0 0 39
    rwa [World.size_alloc] at this
  case round =>
    obtain ⟨k, s, A1, n1, c1, rfl, hk, hP, hQ, hZ, hn1, hfr, hB⟩ := hrel
    obtain ⟨p0, p1, p2, p3, p4⟩ := _root_.id hP
    obtain ⟨q0, q1, q2, q3, q4⟩ := _root_.id hQ
    by_cases hlt : k < l.length
    · obtain ⟨b, o, rfl, hz⟩ := (hs.below hB).int hlt
      have hbr := World.block_lt_of_cell? _ _ hz
      have hin := hx _ (List.getElem_mem hlt)
      have hsum : (l.take (k + 1)).sum = (l.take k).sum + l[k] := by rw [take_snoc l k hlt, List.sum_append]; simp
      have HS := Lib.hid hsum
      clear hsum q0 q1 q2 q3 q4
      generalize l[k] = x at *
      generalize (l.take k).sum = y at *
      go_wp2
      go_region_with (first
        | (go_at_call 21; refine (bof_any x wr.drew hin).mono ?_; rintro e w1 ⟨⟨s1, A2, n2, c2, rfl, hfr1, hbig1⟩, hb1⟩; have hP1 := hP.drew.below hb1; have hQ1 := hQ.drew.below hb1; have hZ1 := hZ.drew.below hb1; have hB1 := since_step hB.drew hb1; have hn2 : n2 ≤ 64 := (hbig1.len (k := 64)).2 (by unfold In64 at hin; simp; omega); obtain ⟨r0, r1, r2, r3, r4⟩ := _root_.id hP1; clear hb1)
        | (go_at_call 35; refine (badd' (w := w1) (by omega) (by omega) hZ1 hbig1).mono ?_; rintro e w2 ⟨⟨s3, A3, n3, c3, rfl, hfr3, hbig3⟩, hb2⟩; have hP2 := hP1.below hb2; have hQ2 := hQ1.below hb2; have hB2 := since_step hB1 hb2; have hz1 := hP1.1; have hn3 := len_add hZ1 hbig1 hbig3; obtain ⟨t0, t1, t2, t3, t4⟩ := _root_.id hP2; clear hb2))
      all_goals
        go_wp2
        go_roundw
        case rel =>
          refine ⟨k + 1, s3, A3, n3, c3, by go_num, by omega, hP2.set2 _ _ _ _, (hQ2.far (by simp) _).far (by simp) _, ?_, by omega, hfr3.le (by omega) (Nat.le_refl _), ?_⟩
          · rw [HS.out]
            exact (hbig3.far (fun b o hA h0 => by have := hfr3 b o hA h0; simp; omega) _).far (fun b o hA h0 => by have := hfr3 b o hA h0; simp; omega) _
          · refine Below.setCell (Below.setCell hB2 ?_ _) ?_ _ <;> simp
        case measure => simp [intOf]; omega
    · obtain rfl : k = l.length := by omega
      rw [List.take_length] at hZ
      go_wp2
      refine bodyPost_ret (v := .agg #[.bool s, .slice A1 n1 c1]) ?_ rfl ?_
      · simp [results, Try.results20, go_sem, cell_set, q1, q2]
      · refine ⟨⟨s, A1, n1, c1, rfl, hfr.le (by omega) (Nat.le_refl _), ?_⟩, ?_⟩
        · exact (hZ.far (fun b o hA h0 => by have := hfr b o hA h0; simp; omega) _).far (fun b o hA h0 => by have := hfr b o hA h0; simp; omega) _
        · repeat' (first | with_reducible exact hB | with_reducible refine Below.setCell ?_ ?_ _)
          all_goals first | (simp; done) | (simp; omega)
end Go.Proofs.Ytckgifhidomhaaa
