/-
  Layer 3: ShareWhole: the walk (laid by gen_share11.py).
-/
import Derived.Test.YtckgifhidomhaaaShare9
import Derived.Test.YtckgifhidomhaaaFix6
import Derived.Test.YtckgifhidomhaaaRInt
namespace Go.Proofs.Ytckgifhidomhaaa
open Go.ChangeShapes Go.WideShapes Go.ChangeAt Go.RowKit
set_option linter.unusedVariables false
set_option linter.unusedSimpArgs false

theorem of_allocW {w w2 : World} {o : Obj} (h : Below (w.alloc o).heap.size (w.alloc o) w2) : Below w.heap.size w w2 := since_step (since_alloc (Below.refl _ _) o) h
theorem sum_lenW {w : World} {s : Bool} {A : Option Addr} {n c : Nat} {l : List Int} (h : BigAt w s A n c l.sum) (hl : l.length ≤ 1000) (hx : All64 l) : n ≤ 128 := by
  have := sum_bound l hx
  refine h.len.2 ?_
  rw [show (2 : Nat) ^ 128 = 340282366920938463463374607431768211456 from by decide]
  omega
/-- what parts are -/
theorem whole_any {t : Int} {l : List Int} (h0 : splitE t l = 0) (h64 : In64 t) : 0 ≤ t ∧ (∀ x ∈ l, 0 ≤ x) ∧ In64 l.sum ∧ (l.sum = 0 → t = 0) ∧ (partsV t l).sum = t ∧ All64 (partsV t l) ∧
    ∀ i, (hi : i < (partsV t l).length) → 0 ≤ (partsV t l)[i] ∧ (l.getD i 0 = 0 → (partsV t l)[i] = 0) ∧ (t ≤ l.sum → (partsV t l)[i] ≤ l.getD i 0) ∧
      (0 < l.sum → (partsV t l)[i] * l.sum - t * l.getD i 0 < l.sum ∧ t * l.getD i 0 - (partsV t l)[i] * l.sum < l.sum) ∧ (l.sum = 0 → (partsV t l)[i] = 0) := by
  unfold splitE at h0
  split at h0
  · cases h0
  · rename_i hb
    obtain ⟨ht, hnn⟩ := mnL_nn.1 hb
    split at h0
    · rename_i hin
      split at h0
      · cases h0
      · rename_i hz
        have hs := (mem_le_sum l hnn).1
        have hS0 : l.sum = 0 → t = 0 := fun h => by omega
        have key : (partsV t l).sum = t ∧ (∀ i, (hi : i < (partsV t l).length) → 0 ≤ (partsV t l)[i] ∧ (l.getD i 0 = 0 → (partsV t l)[i] = 0) ∧ (t ≤ l.sum → (partsV t l)[i] ≤ l.getD i 0) ∧
            (0 < l.sum → (partsV t l)[i] * l.sum - t * l.getD i 0 < l.sum ∧ t * l.getD i 0 - (partsV t l)[i] * l.sum < l.sum) ∧ (l.sum = 0 → (partsV t l)[i] = 0)) := by
          by_cases hS : l.sum = 0
          · have ht0 := hS0 hS
            subst ht0
            have e := partsV_zero hS
            refine ⟨?_, fun i hi => ?_⟩
            · rw [e]
              have : ∀ m : List Int, (m.map fun _ => (0 : Int)).sum = 0 := by
                intro m
                induction m with
                | nil => rfl
                | cons a m ih => rw [List.map_cons, List.sum_cons, ih]; rfl
              exact this l
            · simp only [e, List.getElem_map]
              exact ⟨Int.le_refl _, fun _ => by simp, fun _ => getD_nn hnn i, fun h => by omega, fun _ => by simp⟩
          · refine ⟨partsV_sum (by omega), fun i hi => ?_⟩
            obtain ⟨a1, a2, a3, a4, a5⟩ := partsV_room ht hnn (show 0 < l.sum by omega) hi
            exact ⟨a1, a2, a3, fun _ => ⟨a4, a5⟩, fun h => absurd h hS⟩
        refine ⟨ht, hnn, hin, hS0, key.1, ?_, key.2⟩
        intro x hx
        obtain ⟨i, hi, rfl⟩ := List.getElem_of_mem hx
        have h1 := (key.2 i hi).1
        have h2 := (mem_le_sum (partsV t l) fun y hy => by
          obtain ⟨j, hj, rfl⟩ := List.getElem_of_mem hy
          exact (key.2 j hj).1).2 _ (List.getElem_mem hi)
        rw [key.1] at h2
        unfold In64 at *
        omega
    · cases h0
theorem fill_split {t : Int} {l : List Int} (h : fillE t l = 0) : splitE t l = 0 ∧ t ≤ l.sum := by
  unfold fillE at h
  split at h
  · cases h
  · split at h
    · split at h
      · cases h
      · exact ⟨h, by omega⟩
    · cases h

/-- a number without bounds that lies in a block -/
def BigP (w : World) (g : Nat) (z : Int) (N : Nat) : Prop := ∃ s A n c, BB w g s A n c ∧ BigAt w s A n c z ∧ n ≤ N
theorem BigP.below {w w' : World} {g : Nat} {z : Int} {N : Nat} (h : BigP w g z N) (hb : Below w.heap.size w w') : BigP w' g z N := by
  obtain ⟨s, A, n, c, h1, h2, h3⟩ := h
  exact ⟨s, A, n, c, h1.below hb, h2.below hb, h3⟩
theorem cmp_refl (z : Int) : cmpZ z z = 0 := by unfold cmpZ; simp
theorem cmp_lt {x y : Int} (h : x < y) : cmpZ x y = -1 := by unfold cmpZ; rw [if_neg (by omega), if_pos h]

set_option maxRecDepth 100000 in
set_option maxHeartbeats 16000000 in
theorem walk_ShareWhole (a0 : Int) (a1 : Option Addr) (n1 c1 : Nat) (w : World) (w0 : (Lit.int .i64 a0).wf = true) (w1 : Rd w (.sl (.int .i64)) [.slice a1 n1 c1]) :
    Calls Try.prog 5 #[.int .i64 a0, .slice a1 n1 c1] w fun e w' => e = .returned (.bool true) ∧ Below w.heap.size w w' := by
  have h64 : In64 a0 := bd_i64 w0
  obtain ⟨l0, rfl, hc1, hc2, hs0, hwf⟩ := rd_ints w1
  have hx0 := All64.of hwf
  obtain ⟨l, hl⟩ : ∃ l, l = l0.take 30 := ⟨_, rfl⟩
  have HF := Lib.hid (few3_any a1 c1 l0 w ⟨hc1, hc2⟩ hs0)
  have hx : All64 l := by rw [hl]; exact hx0.take _
  have hs : Sl w a1 (ints .i64 l) := by rw [hl]; exact sl_take hs0 _
  have hll : l.length ≤ 64 := by rw [hl]; simp; omega
  have HSP := Lib.hid (fun W (hb : Below w.heap.size w W) => split_any a0 a1 c1 l W hll hx h64 (hs.below hb))
  have HFP := Lib.hid (fun W (hb : Below w.heap.size w W) => fill_any a0 a1 c1 l W hll hx h64 (hs.below hb))
  have HRS := Lib.hid (fun W (hb : Below w.heap.size w W) => rsum_any a1 c1 l W (by omega) hx (hs.below hb))
  have HWL := Lib.hid (fun h => whole_any (t := a0) (l := l) h h64)
  have HSL := Lib.hid (fun (v : List Int) (W : World) (s : Bool) (A : Option Addr) (n c : Nat) (h : BigAt W s A n c v.sum) (hl : v.length ≤ 1000) (hx : All64 v) => sum_lenW h hl hx)
  rw [← hl] at HF
  clear w0 w1 hwf hx0 hs0 hc1 hl
  go_enter Try.func5, Try.ntmps5
  go_wp2_with fail
  refine HF.out.mono ?_
  rintro e w1 ⟨rfl, hb1⟩
  go_wp2_with fail
  refine (HSP.out _ hb1).mono ?_
  rintro e w2 ⟨⟨A2, c2, rfl, hc, ha, hf⟩, hb2⟩
  have hB2 := since_step hb1 hb2
  clear hb1 hb2 hf
  go_wp2_with fail
  refine (HFP.out _ hB2).mono ?_
  rintro e w3 ⟨⟨A3, c3, rfl, hc3, hb, hf⟩, hb3⟩
  have hB3 := since_step hB2 hb3
  have ha := ha.below hb3
  clear hb3 hf hB2
  by_cases h0 : splitE a0 l = 0
  · have hv : splitV a0 l = partsV a0 l := if_pos h0
    obtain ⟨ht, hnn, hin, hSt, hsum, hv64, hvi⟩ := HWL.out h0
    have hpl := partsV_length a0 l
    have HVI := Lib.hid hvi
    have hfill : (fillE a0 l = 0 ∧ fillV a0 l = partsV a0 l ∧ a0 ≤ l.sum) ∨ ¬ fillE a0 l = 0 := by
      by_cases h : fillE a0 l = 0
      · exact Or.inl ⟨h, if_pos h, (fill_split h).2⟩
      · exact Or.inr h
    rw [h0]
    rw [hv] at ha hc ⊢
    rw [hpl] at hc ⊢
    have hvm : (partsV a0 l).length ≤ 1000 := by omega
    generalize partsV a0 l = v at *
    generalize fillE a0 l = fe at *
    generalize fillV a0 l = fv at *
    have HPL := Lib.hid hpl
    have HSUM := Lib.hid hsum
    have HV64 := Lib.hid hv64
    have H64 := Lib.hid h64
    have hs3 := hs.below hB3
    clear h0 hv hvi hsum hpl hv64
    go_upto_if 29 with fail
    go_cut [5, 7] (fun s5 s7 wx => s5 = .slice A2 l.length c2 ∧ Below w3.heap.size w3 wx)
    case first =>
      rcases hfill with ⟨hf0, hfv, hle⟩ | hf0
      · subst hfv; subst hf0
        have hpl := HPL.out
        rw [hpl] at hc3 ⊢
        clear hpl
        go_wp2_with fail
        go_loopw [9] (fun i wr => ∃ k : Nat, k ≤ l.length ∧ i = .int .i64 k ∧ Below w3.heap.size w3 wr) (fun i _ => l.length - (intOf i).toNat)
        case atStart => exact ⟨0, by omega, rfl, Below.refl _ _⟩
        case round =>
          obtain ⟨k, hk, rfl, hB⟩ := hrel
          by_cases hlt : k < l.length
          · obtain ⟨b, o, hA, hz1⟩ := (hs3.below hB).int hlt
            obtain ⟨d, p, hD, hz2⟩ := (hb.below hB).int (j := k) (by rw [HPL.out]; exact hlt)
            have hvk := HVI.out k (by rw [HPL.out]; exact hlt)
            rw [List.getD_eq_getElem?_getD, List.getElem?_eq_getElem hlt] at hvk
            simp only [Option.getD_some] at hvk
            obtain ⟨q1, q2, q3, q4, q5⟩ := hvk
            have q3 := q3 hle
            have l1 := World.block_lt_of_cell? _ _ hz1
            have l2 := World.block_lt_of_cell? _ _ hz2
            subst hA; subst hD
            clear q2 q4 q5
            generalize fv[k]'(by rw [HPL.out]; exact hlt) = vi at *
            generalize l[k] = li at *
            have e1 : decide (vi < 0) = false := decide_eq_false (by omega)
            have e2 : decide (li < vi) = false := decide_eq_false (by omega)
            go_wp2
            go_quiet (fail)
            go_wp2
            go_roundw
            case rel =>
              (repeat apply Exists.intro)
              exact ⟨⟨k + 1, by omega, intE (by omega), below_drewN hB _⟩, rfl⟩
            case measure => simp [intOf]; omega
          · obtain rfl : k = l.length := by omega
            have HRB := fun W (h : Sl W A3 (ints .i64 fv)) => rsum_any A3 c3 fv W hvm HV64.out h
            rw [HPL.out, HSUM.out] at HRB
            have HRB := Lib.hid HRB
            have HL128 := fun W s A n c (h : BigAt W s A n c fv.sum) => HSL.out fv W s A n c h hvm HV64.out
            rw [HSUM.out] at HL128
            have HL128 := Lib.hid HL128
            have HCR := Lib.hid (cmp_refl a0)
            go_wp2_with fail
            refine (HRB.out _ (hb.below hB)).mono ?_
            rintro e w4 ⟨⟨s4, A4, n4, c4, rfl, hf4, X4⟩, hb4⟩
            have hB4 := since_step hB hb4
            have hn4 := HL128.out _ _ _ _ _ X4
            clear hb4 hf4 hB
            go_wp2_with fail
            refine (bof_any a0 _ H64.out).mono ?_
            rintro e w5 ⟨⟨s5, A5, n5, c5, rfl, hf5, X5⟩, hb5⟩
            have hB5 := since_step hB4 hb5
            have X4 := X4.below hb5
            have hn5 := X5.l64 H64.out
            clear hb5 hf5 hB4
            go_wp2_with fail
            refine (bcmp_any a0 a0 _ _ _ _ _ _ _ _ _ (by omega) (by omega) X4 X5).mono ?_
            rintro e w6 ⟨rfl, hb6⟩
            have hB6 := since_step hB5 hb6
            rw [HCR.out]
            clear hb6 hB5 X4 X5
            go_wp2_with fail
            go_meet
            case rel => exact ⟨rfl, hB6⟩
      · go_wp2_with fail
        go_meet
        case rel => exact ⟨rfl, Below.refl _ _⟩
    case rest =>
      obtain ⟨rfl, hBc⟩ := hcut
      have hB4 := since_step hB3 hBc
      have ha4 := ha.below hBc
      have hs4 := hs3.below hBc
      clear hBc hB3 ha hb hc3 hfill hs3
      generalize wc = w4 at *
      go_wp2_with fail
      refine (HRS.out _ hB4).mono ?_
      rintro e w5 ⟨⟨s5, A5, n5, c5, rfl, hf5, X5⟩, hb5⟩
      have n5l := HSL.out _ _ _ _ _ _ X5 (by omega) hx
      have hB5 := since_alloc (since_step hB4 hb5) (.cells #[.bool s5, .slice A5 n5 c5] 39)
      have G5 := BB.new w5 s5 A5 n5 c5 39
      have X6 := X5.alloc (.cells #[.bool s5, .slice A5 n5 c5] 39)
      have ha5 := (ha4.below hb5).alloc (.cells #[.bool s5, .slice A5 n5 c5] 39)
      have hs5 := (hs4.below hb5).alloc (.cells #[.bool s5, .slice A5 n5 c5] 39)
      clear hb5 hf5 X5 hB4 ha4 hs4
      go_upto_region 15 with fail
      generalize w5.alloc (.cells #[.bool s5, .slice A5 n5 c5] 39) = W5 at *
      have BP : BigP W5 w5.heap.size l.sum 128 := ⟨s5, A5, n5, c5, G5, X6, n5l⟩
      generalize w5.heap.size = gS at *
      clear G5 X6 n5l
      go_wp2_with fail
      go_loopw [11] (fun i wr => ∃ k : Nat, k ≤ l.length ∧ i = .int .i64 k ∧ Below W5.heap.size W5 wr) (fun i _ => l.length - (intOf i).toNat)
      case atStart => exact ⟨0, by omega, rfl, Below.refl _ _⟩
      case round =>
        obtain ⟨k, hk, rfl, hB⟩ := hrel
        by_cases hlt : k < l.length
        · obtain ⟨b, o, hA, hz1⟩ := (hs5.below hB).int hlt
          obtain ⟨d, p, hD, hz2⟩ := (ha5.below hB).int (j := k) (by rw [HPL.out]; exact hlt)
          have hvk := HVI.out k (by rw [HPL.out]; exact hlt)
          rw [List.getD_eq_getElem?_getD, List.getElem?_eq_getElem hlt] at hvk
          simp only [Option.getD_some] at hvk
          have hvi64 : In64 (v[k]'(by rw [HPL.out]; exact hlt)) := HV64.out _ (List.getElem_mem _)
          have hli64 : In64 l[k] := hx _ (List.getElem_mem hlt)
          obtain ⟨q1, q2, q3, q4, q5⟩ := hvk
          have l1 := World.block_lt_of_cell? _ _ hz1
          have l2 := World.block_lt_of_cell? _ _ hz2
          have BPr := BP.below hB
          subst hA; subst hD
          clear q3
          have hin64 : In64 l.sum := hin
          have hnnS : 0 ≤ l.sum := (mem_le_sum l hnn).1
          generalize v[k]'(by rw [HPL.out]; exact hlt) = vi at *
          generalize l[k] = li at *
          generalize l.sum = S at *
          go_upto_region 18 with fail
          go_cut [106] (fun s wx => s = .bool false ∧ wx = wr)
          case first =>
            have e1 : decide (vi < 0) = false := decide_eq_false (by omega)
            by_cases hl0 : li = 0
            · have hv0 := q2 hl0
              subst hl0; subst hv0
              go_wp2_with fail
              go_meet
              case rel => exact ⟨rfl, rfl⟩
            · clear q2 q4 q5
              have e3 : (li == 0) = false := by rw [beq_eq_false_iff_ne]; exact hl0
              go_wp2_with fail
              go_meet
              case rel => exact ⟨rfl, rfl⟩
          case rest =>
          obtain ⟨rfl, rfl⟩ := hcut
          have HQ2 := Lib.hid q2
          have HQ4 := Lib.hid q4
          have HQ5 := Lib.hid q5
          have HSt := Lib.hid hSt
          clear q2 q4 q5 hSt
          generalize wc = wr at *
          go_upto_region 20 with fail
          obtain ⟨s10, A10, n10, c10, P10, X10, N10⟩ := id BPr
          obtain ⟨p0, p1, p2, p3, p4⟩ := _root_.id P10
          go_cut [12] (fun s12 wx => ∃ g, s12 = .pointer (some ⟨g, 0, none⟩) ∧ BigP wx g (vi * S) 256 ∧ Below wr.heap.size wr wx)
          case first =>
            go_region_with (first
              | (go_at_call 21; refine (bof_any _ _ (by assumption)).mono ?_; rintro e v1 ⟨⟨s1, A1, n1, c1, rfl, hf1, X1⟩, hb1⟩; have bb1 : Below wr.heap.size wr v1 := (by first | (with_reducible exact since_step (Below.refl wr.heap.size wr).drew hb1) | (with_reducible exact since_step (since_alloc (Below.refl wr.heap.size wr) _).drew hb1)); have bw1 := bb1; have N1 : n1 ≤ 64 := X1.l64 (by assumption); have P10 := P10.below bb1; obtain ⟨p0, p1, p2, p3, p4⟩ := _root_.id P10; have X10 := X10.below bb1; (first | have G := G.below bb1 | have G : BB v1 wr.heap.size false none 0 0 := (BB.new wr false none 0 0 39).drew.below (by with_reducible exact hb1) | skip); (first | obtain ⟨g0, g1, g2, g3, g4⟩ := _root_.id G | skip); clear hb1)
              | (go_at_call 22; refine (bmul_any _ _ _ _ _ _ _ _ _ _ _ (by omega) (by omega) (by first | assumption | exact BigAt.alloc (by assumption) _) (by first | assumption | exact BigAt.alloc (by assumption) _)).mono ?_; rintro e v2 ⟨⟨s2, A2, n2, c2, rfl, hf2, X2⟩, hb2⟩; have bb2 : Below v1.heap.size v1 v2 := (by first | (with_reducible exact hb2) | (with_reducible exact of_allocW hb2)); have bw2 := since_step bw1 bb2; have N2 : n2 ≤ 256 := (by have := len_mul X1 X10 X2; omega); (first | have G := G.below bb2 | have G : BB v2 v1.heap.size false none 0 0 := (BB.new v1 false none 0 0 39).below (by with_reducible exact hb2) | skip); (first | obtain ⟨g0, g1, g2, g3, g4⟩ := _root_.id G | skip); clear hb2))
            all_goals
              have hcs := @cell_set
              have z1 := bw1.size
              have z2 := bw2.size
              go_wp2_with fail
              go_meet
              case rel =>
                first
                  | exact ⟨_, rfl, ⟨_, _, _, _, BB.new _ _ _ _ _ _, X2.alloc _, by omega⟩, since_alloc bw2 _⟩
                  | exact ⟨_, rfl, ⟨_, _, _, _, G.set2 _ _ _ _, (X2.far (fun b o hA h0 => by have h9 := hf2 b o hA h0; (try simp at h9); simp; omega) _).far (fun b o hA h0 => by have h9 := hf2 b o hA h0; (try simp at h9); simp; omega) _, by omega⟩,
                      Below.setCell (Below.setCell bw2 (by first | (simp; done) | (simp; omega)) _) (by first | (simp; done) | (simp; omega)) _⟩
          case rest =>
          obtain ⟨gL, rfl, BPl, hbx⟩ := hcut
          have hBd := since_step hB hbx
          have BPs := BPr.below hbx
          have hz1 := (hbx.cell (p := _) l1).trans hz1
          have l1 := Nat.lt_of_lt_of_le l1 hbx.size
          have hbp := hbx.size
          clear hbx hB BPr P10 X10 p0 p1 p2 p3 p4 hz2 l2
          generalize wc = wd at *
          clear hbp
          go_upto_region 21 with fail
          have tk1 : True := trivial
          go_cut [13] (fun s13 wx => ∃ g, s13 = .pointer (some ⟨g, 0, none⟩) ∧ BigP wx g (a0 * li) 256 ∧ Below wd.heap.size wd wx)
          case first =>
            go_region_with (first
              | (go_at_call 21; clear tk1; refine (bof_any _ _ (by assumption)).mono ?_; rintro e v1 ⟨⟨s1, A1, n1, c1, rfl, hf1, X1⟩, hb1⟩; have bb1 : Below wd.heap.size wd v1 := (by first | (with_reducible exact since_step (Below.refl wd.heap.size wd).drew hb1) | (with_reducible exact since_step (since_alloc (Below.refl wd.heap.size wd) _).drew hb1)); have bw1 := bb1; have N1 : n1 ≤ 64 := X1.l64 (by assumption); have hz1 := (bb1.cell (p := _) l1).trans hz1; have l1 := Nat.lt_of_lt_of_le l1 bb1.size; (first | have G := G.below bb1 | have G : BB v1 wd.heap.size false none 0 0 := (BB.new wd false none 0 0 39).drew.below (by with_reducible exact hb1) | skip); (first | obtain ⟨g0, g1, g2, g3, g4⟩ := _root_.id G | skip); clear hb1)
              | (go_at_call 21; refine (bof_any _ _ (by assumption)).mono ?_; rintro e v2 ⟨⟨s2, A2, n2, c2, rfl, hf2, X2⟩, hb2⟩; have bb2 : Below v1.heap.size v1 v2 := (by first | (with_reducible exact hb2) | (with_reducible exact of_allocW hb2)); have bw2 := since_step bw1 bb2; have N2 : n2 ≤ 64 := X2.l64 (by assumption); have X1 := X1.below bb2; (first | have G := G.below bb2 | have G : BB v2 v1.heap.size false none 0 0 := (BB.new v1 false none 0 0 39).below (by with_reducible exact hb2) | skip); (first | obtain ⟨g0, g1, g2, g3, g4⟩ := _root_.id G | skip); clear hb2)
              | (go_at_call 22; refine (bmul_any _ _ _ _ _ _ _ _ _ _ _ (by omega) (by omega) (by first | assumption | exact BigAt.alloc (by assumption) _) (by first | assumption | exact BigAt.alloc (by assumption) _)).mono ?_; rintro e v3 ⟨⟨s3, A3, n3, c3, rfl, hf3, X3⟩, hb3⟩; have bb3 : Below v2.heap.size v2 v3 := (by first | (with_reducible exact hb3) | (with_reducible exact of_allocW hb3)); have bw3 := since_step bw2 bb3; have N3 : n3 ≤ 256 := (by first | (have := len_mul X1 X2 X3; omega) | (have := len_mul X2 X1 X3; omega)); (first | have G := G.below bb3 | have G : BB v3 v2.heap.size false none 0 0 := (BB.new v2 false none 0 0 39).below (by with_reducible exact hb3) | skip); (first | obtain ⟨g0, g1, g2, g3, g4⟩ := _root_.id G | skip); clear hb3))
            all_goals
              have hcs := @cell_set
              have z1 := bw1.size
              have z2 := bw2.size
              have z3 := bw3.size
              go_wp2_with fail
              go_meet
              case rel =>
                first
                  | exact ⟨_, rfl, ⟨_, _, _, _, BB.new _ _ _ _ _ _, X3.alloc _, by omega⟩, since_alloc bw3 _⟩
                  | exact ⟨_, rfl, ⟨_, _, _, _, G.set2 _ _ _ _, (X3.far (fun b o hA h0 => by have h9 := hf3 b o hA h0; (try simp at h9); simp; omega) _).far (fun b o hA h0 => by have h9 := hf3 b o hA h0; (try simp at h9); simp; omega) _, by omega⟩,
                      Below.setCell (Below.setCell bw3 (by first | (simp; done) | (simp; omega)) _) (by first | (simp; done) | (simp; omega)) _⟩
          case rest =>
          obtain ⟨gE, rfl, BPe, hbx⟩ := hcut
          have hBe := since_step hBd hbx
          have BPs := BPs.below hbx
          have BPl := BPl.below hbx
          clear hbx hBd hz1 l1 tk1
          generalize wc = W at *
          go_upto_region 22 with fail
          obtain ⟨sS, AS, nS, cS, PS, XS0, NS⟩ := BPs
          obtain ⟨sL, AL, nL, cL, PL, XL0, NL⟩ := BPl
          obtain ⟨sE, AE, nE, cE, PE, XE0, NE⟩ := BPe
          have XS := Lib.hid (fun V (h : Below W.heap.size W V) => XS0.below h)
          have XL := Lib.hid (fun V (h : Below W.heap.size W V) => XL0.below h)
          have XE := Lib.hid (fun V (h : Below W.heap.size W V) => XE0.below h)
          have SO := Lib.hid (fun V (h : Below W.heap.size W V) => show Below W.heap.size W V ∧ V.cell? ⟨gS, 0, none⟩ = some (.bool sS) ∧ V.cell? ⟨gS, 1, none⟩ = some (.slice AS nS cS) ∧ V.cell? ⟨gL, 0, none⟩ = some (.bool sL) ∧ V.cell? ⟨gL, 1, none⟩ = some (.slice AL nL cL) ∧ V.cell? ⟨gE, 0, none⟩ = some (.bool sE) ∧ V.cell? ⟨gE, 1, none⟩ = some (.slice AE nE cE) from
            ⟨h, (PS.below h).2.1, (PS.below h).2.2.1, (PL.below h).2.1, (PL.below h).2.2.1, (PE.below h).2.1, (PE.below h).2.2.1⟩)
          have hm1 := mul_in128 hvi64 hin64
          have hm2 := mul_in128 h64 hli64
          have HN1 := Lib.hid (fun V s A n c (h : BigAt V s A n c (vi * S - a0 * li)) => show n ≤ 130 from h.len.2 (by
            rw [show (2 : Nat) ^ 130 = 1361129467683753853853498429727072845824 from by decide]
            unfold In128 at hm1 hm2; omega))
          have HN3 := Lib.hid (fun V s A n c (h : BigAt V s A n c (a0 * li - vi * S)) => show n ≤ 130 from h.len.2 (by
            rw [show (2 : Nat) ^ 130 = 1361129467683753853853498429727072845824 from by decide]
            unfold In128 at hm1 hm2; omega))
          clear hm1 hm2 PS PL PE XS0 XL0 XE0
          rcases (show S = 0 ∨ 0 < S by have := hnnS; omega) with hS0 | hS0
          · have ha00 := HSt.out hS0
            have hvi0 := HQ5.out hS0
            have HC1 := Lib.hid (show cmpZ (vi * S - a0 * li) S = 0 by rw [ha00, hvi0, hS0]; simp [cmpZ])
            have HC3 := Lib.hid (show cmpZ (a0 * li - vi * S) S = 0 by rw [ha00, hvi0, hS0]; simp [cmpZ])
            have e1 : decide (0 < a0) = false := decide_eq_false (by omega)
            clear ha00 hvi0 hS0
            refine wp_region_held_drew (S := (fun V => Below W.heap.size W V ∧ V.cell? ⟨gS, 0, none⟩ = some (.bool sS) ∧ V.cell? ⟨gS, 1, none⟩ = some (.slice AS nS cS) ∧ V.cell? ⟨gL, 0, none⟩ = some (.bool sL) ∧ V.cell? ⟨gL, 1, none⟩ = some (.slice AL nL cL) ∧ V.cell? ⟨gE, 0, none⟩ = some (.bool sE) ∧ V.cell? ⟨gE, 1, none⟩ = some (.slice AE nE cE))) (by kernel_rfl) (by exact SO.out _ (Below.refl _ _).drew) (fun hHeld => ?_)
            refine wpAnyH_take (i := 0) (oi := { dst := some 122, op := _, type := _, pos := _, after := _, guard := _ }) (v := ?_) rfl (by kernel_rfl) (by kernel_rfl) (by kernel_rfl) (fun _ _ _ h => h) (Or.inl ⟨by rfl, ?_⟩) (by assumption) ?_
            rotate_left
            · (intro w hSw; (try dsimp only at hSw); go_split_ands; go_simp <;> with_reducible rfl)
            try simp only [Act.put, List.setIfInBounds_toArray, List.set_cons_zero, List.set_cons_succ]
            refine wpAnyH_take (i := 1) (oi := { dst := some 123, op := _, type := _, pos := _, after := _, guard := _ }) (v := ?_) rfl (by kernel_rfl) (by kernel_rfl) (by kernel_rfl) (fun _ _ _ h => h) (Or.inl ⟨by rfl, ?_⟩) (by assumption) ?_
            rotate_left
            · (intro w hSw; (try dsimp only at hSw); go_split_ands; go_simp <;> with_reducible rfl)
            try simp only [Act.put, List.setIfInBounds_toArray, List.set_cons_zero, List.set_cons_succ]
            refine wpAnyH_take (i := 3) (oi := { dst := some 125, op := _, type := _, pos := _, after := _, guard := _ }) (v := ?_) rfl (by kernel_rfl) (by kernel_rfl) (by kernel_rfl) (fun _ _ _ h => h) (Or.inl ⟨by rfl, ?_⟩) (by assumption) ?_
            rotate_left
            · (intro w hSw; (try dsimp only at hSw); go_split_ands; go_simp <;> with_reducible rfl)
            try simp only [Act.put, List.setIfInBounds_toArray, List.set_cons_zero, List.set_cons_succ]
            refine wpAnyH_ready (rs := [2]) (by kernel_rfl) (by simp) ?_
            refine AllReadyH.cons (o := { dst := some 124, op := _, type := _, pos := _, after := _, guard := _ }) rfl (fun K hK => ?_) AllReadyH.nil
            go_simp
            have hHd := hHeld
            (try dsimp only at hHd)
            go_split_ands
            (refine (bsub_any (vi * S) (a0 * li) _ _ _ _ _ _ _ _ _ (by omega) (by omega) (XL.out _ (by assumption)) (XE.out _ (by assumption))).mono ?_; rintro e u1 ⟨⟨t1, B1, m1, d1, rfl, hq1, Y1⟩, hk1⟩; have hkw1 := since_step (by assumption) hk1; have hm1 := HN1.out _ _ _ _ _ Y1)
            go_wp2_with fail
            refine hK.out _ _ (by (try dsimp only); (first | exact SO.out _ (by assumption) | exact SO.out _ (Below.refl _ _).drew | assumption)) (fun hHeld => ?_)
            clear hK K
            try simp only [Act.put, List.setIfInBounds_toArray, List.set_cons_zero, List.set_cons_succ]
            refine wpAnyH_ready (rs := [4]) (by kernel_rfl) (by simp) ?_
            refine AllReadyH.cons (o := { dst := some 126, op := _, type := _, pos := _, after := _, guard := _ }) rfl (fun K hK => ?_) AllReadyH.nil
            go_simp
            have hHd := hHeld
            (try dsimp only at hHd)
            go_split_ands
            (refine (bcmp_any (vi * S - a0 * li) S _ _ _ _ _ _ _ _ _ (by omega) (by omega) Y1 (XS.out _ (by assumption))).mono ?_; rintro e u2 ⟨rfl, hk2⟩; have hkw2 := since_step (by assumption) hk2; rw [HC1.out])
            go_wp2_with fail
            refine hK.out _ _ (by (try dsimp only); (first | exact SO.out _ (by assumption) | exact SO.out _ (Below.refl _ _).drew | assumption)) (fun hHeld => ?_)
            clear hK K
            try simp only [Act.put, List.setIfInBounds_toArray, List.set_cons_zero, List.set_cons_succ]
            refine wpAnyH_take (i := 5) (oi := { dst := some 127, op := _, type := _, pos := _, after := _, guard := _ }) (v := ?_) rfl (by kernel_rfl) (by kernel_rfl) (by kernel_rfl) (fun _ _ _ h => h) (Or.inl ⟨by rfl, ?_⟩) (by assumption) ?_
            rotate_left
            · (intro w hSw; (try dsimp only at hSw); go_split_ands; go_simp <;> with_reducible rfl)
            try simp only [Act.put, List.setIfInBounds_toArray, List.set_cons_zero, List.set_cons_succ]
            refine wpAnyH_take (i := 6) (oi := { dst := some 128, op := _, type := _, pos := _, after := _, guard := _ }) (v := ?_) rfl (by kernel_rfl) (by kernel_rfl) (by kernel_rfl) (fun _ _ _ h => h) (Or.inl ⟨by rfl, ?_⟩) (by assumption) ?_
            rotate_left
            · (intro w hSw; (try dsimp only at hSw); go_split_ands; go_simp <;> with_reducible rfl)
            try simp only [Act.put, List.setIfInBounds_toArray, List.set_cons_zero, List.set_cons_succ]
            refine wpAnyH_take (i := 7) (oi := { dst := some 129, op := _, type := _, pos := _, after := _, guard := _ }) (v := ?_) rfl (by kernel_rfl) (by kernel_rfl) (by kernel_rfl) (fun _ _ _ h => h) (Or.inl ⟨by rfl, ?_⟩) (by assumption) ?_
            rotate_left
            · (intro w hSw; (try dsimp only at hSw); go_split_ands; go_simp <;> with_reducible rfl)
            try simp only [Act.put, List.setIfInBounds_toArray, List.set_cons_zero, List.set_cons_succ]
            refine wpAnyH_take (i := 8) (oi := { dst := some 130, op := _, type := _, pos := _, after := _, guard := _ }) (v := ?_) rfl (by kernel_rfl) (by kernel_rfl) (by kernel_rfl) (fun _ _ _ h => h) (Or.inl ⟨by rfl, ?_⟩) (by assumption) ?_
            rotate_left
            · (intro w hSw; (try dsimp only at hSw); go_split_ands; go_simp <;> with_reducible rfl)
            try simp only [Act.put, List.setIfInBounds_toArray, List.set_cons_zero, List.set_cons_succ]
            refine wpAnyH_take (i := 9) (oi := { dst := some 131, op := _, type := _, pos := _, after := _, guard := _ }) (v := ?_) rfl (by kernel_rfl) (by kernel_rfl) (by kernel_rfl) (fun _ _ _ h => h) (Or.inl ⟨by rfl, ?_⟩) (by assumption) ?_
            rotate_left
            · (intro w hSw; (try dsimp only at hSw); go_split_ands; go_simp <;> with_reducible rfl)
            try simp only [Act.put, List.setIfInBounds_toArray, List.set_cons_zero, List.set_cons_succ]
            refine wpAnyH_take (i := 10) (oi := { dst := some 132, op := _, type := _, pos := _, after := _, guard := _ }) (v := ?_) rfl (by kernel_rfl) (by kernel_rfl) (by kernel_rfl) (fun _ _ _ h => h) (Or.inl ⟨by rfl, ?_⟩) (by assumption) ?_
            rotate_left
            · (intro w hSw; (try dsimp only at hSw); go_split_ands; go_simp <;> with_reducible rfl)
            try simp only [Act.put, List.setIfInBounds_toArray, List.set_cons_zero, List.set_cons_succ]
            refine wpAnyH_take (i := 11) (oi := { dst := some 133, op := _, type := _, pos := _, after := _, guard := _ }) (v := ?_) rfl (by kernel_rfl) (by kernel_rfl) (by kernel_rfl) (fun _ _ _ h => h) (Or.inl ⟨by rfl, ?_⟩) (by assumption) ?_
            rotate_left
            · (intro w hSw; (try dsimp only at hSw); go_split_ands; go_simp <;> with_reducible rfl)
            try simp only [Act.put, List.setIfInBounds_toArray, List.set_cons_zero, List.set_cons_succ]
            refine wpAnyH_take (i := 12) (oi := { dst := some 134, op := _, type := _, pos := _, after := _, guard := _ }) (v := ?_) rfl (by kernel_rfl) (by kernel_rfl) (by kernel_rfl) (fun _ _ _ h => h) (Or.inl ⟨by rfl, ?_⟩) (by assumption) ?_
            rotate_left
            · (intro w hSw; (try dsimp only at hSw); go_split_ands; go_simp <;> with_reducible rfl)
            try simp only [Act.put, List.setIfInBounds_toArray, List.set_cons_zero, List.set_cons_succ]
            refine wpAnyH_take (i := 14) (oi := { dst := some 136, op := _, type := _, pos := _, after := _, guard := _ }) (v := ?_) rfl (by kernel_rfl) (by kernel_rfl) (by kernel_rfl) (fun _ _ _ h => h) (Or.inl ⟨by rfl, ?_⟩) (by assumption) ?_
            rotate_left
            · (intro w hSw; (try dsimp only at hSw); go_split_ands; go_simp <;> with_reducible rfl)
            try simp only [Act.put, List.setIfInBounds_toArray, List.set_cons_zero, List.set_cons_succ]
            refine wpAnyH_ready (rs := [13]) (by kernel_rfl) (by simp) ?_
            refine AllReadyH.cons (o := { dst := some 135, op := _, type := _, pos := _, after := _, guard := _ }) rfl (fun K hK => ?_) AllReadyH.nil
            go_simp
            have hHd := hHeld
            (try dsimp only at hHd)
            go_split_ands
            (refine (bsub_any (a0 * li) (vi * S) _ _ _ _ _ _ _ _ _ (by omega) (by omega) (XE.out _ (by assumption)) (XL.out _ (by assumption))).mono ?_; rintro e u3 ⟨⟨t3, B3, m3, d3, rfl, hq3, Y3⟩, hk3⟩; have hkw3 := since_step (by assumption) hk3; have hm3 := HN3.out _ _ _ _ _ Y3)
            go_wp2_with fail
            refine hK.out _ _ (by (try dsimp only); (first | exact SO.out _ (by assumption) | exact SO.out _ (Below.refl _ _).drew | assumption)) (fun hHeld => ?_)
            clear hK K
            try simp only [Act.put, List.setIfInBounds_toArray, List.set_cons_zero, List.set_cons_succ]
            refine wpAnyH_ready (rs := [15]) (by kernel_rfl) (by simp) ?_
            refine AllReadyH.cons (o := { dst := some 137, op := _, type := _, pos := _, after := _, guard := _ }) rfl (fun K hK => ?_) AllReadyH.nil
            go_simp
            have hHd := hHeld
            (try dsimp only at hHd)
            go_split_ands
            (refine (bcmp_any (a0 * li - vi * S) S _ _ _ _ _ _ _ _ _ (by omega) (by omega) Y3 (XS.out _ (by assumption))).mono ?_; rintro e u4 ⟨rfl, hk4⟩; have hkw4 := since_step (by assumption) hk4; rw [HC3.out])
            go_wp2_with fail
            refine hK.out _ _ (by (try dsimp only); (first | exact SO.out _ (by assumption) | exact SO.out _ (Below.refl _ _).drew | assumption)) (fun hHeld => ?_)
            clear hK K
            try simp only [Act.put, List.setIfInBounds_toArray, List.set_cons_zero, List.set_cons_succ]
            refine wpAnyH_take (i := 16) (oi := { dst := some 138, op := _, type := _, pos := _, after := _, guard := _ }) (v := ?_) rfl (by kernel_rfl) (by kernel_rfl) (by kernel_rfl) (fun _ _ _ h => h) (Or.inl ⟨by rfl, ?_⟩) (by assumption) ?_
            rotate_left
            · (intro w hSw; (try dsimp only at hSw); go_split_ands; go_simp <;> with_reducible rfl)
            try simp only [Act.put, List.setIfInBounds_toArray, List.set_cons_zero, List.set_cons_succ]
            refine wpAnyH_take (i := 17) (oi := { dst := some 139, op := _, type := _, pos := _, after := _, guard := _ }) (v := ?_) rfl (by kernel_rfl) (by kernel_rfl) (by kernel_rfl) (fun _ _ _ h => h) (Or.inl ⟨by rfl, ?_⟩) (by assumption) ?_
            rotate_left
            · (intro w hSw; (try dsimp only at hSw); go_split_ands; go_simp <;> with_reducible rfl)
            try simp only [Act.put, List.setIfInBounds_toArray, List.set_cons_zero, List.set_cons_succ]
            refine wpAnyH_take (i := 18) (oi := { dst := some 140, op := _, type := _, pos := _, after := _, guard := _ }) (v := ?_) rfl (by kernel_rfl) (by kernel_rfl) (by kernel_rfl) (fun _ _ _ h => h) (Or.inl ⟨by rfl, ?_⟩) (by assumption) ?_
            rotate_left
            · (intro w hSw; (try dsimp only at hSw); go_split_ands; go_simp <;> with_reducible rfl)
            try simp only [Act.put, List.setIfInBounds_toArray, List.set_cons_zero, List.set_cons_succ]
            refine wpAnyH_take (i := 19) (oi := { dst := some 141, op := _, type := _, pos := _, after := _, guard := _ }) (v := ?_) rfl (by kernel_rfl) (by kernel_rfl) (by kernel_rfl) (fun _ _ _ h => h) (Or.inl ⟨by rfl, ?_⟩) (by assumption) ?_
            rotate_left
            · (intro w hSw; (try dsimp only at hSw); go_split_ands; go_simp <;> with_reducible rfl)
            try simp only [Act.put, List.setIfInBounds_toArray, List.set_cons_zero, List.set_cons_succ]
            refine wpAnyH_take (i := 20) (oi := { dst := some 142, op := _, type := _, pos := _, after := _, guard := _ }) (v := ?_) rfl (by kernel_rfl) (by kernel_rfl) (by kernel_rfl) (fun _ _ _ h => h) (Or.inl ⟨by rfl, ?_⟩) (by assumption) ?_
            rotate_left
            · (intro w hSw; (try dsimp only at hSw); go_split_ands; go_simp <;> with_reducible rfl)
            try simp only [Act.put, List.setIfInBounds_toArray, List.set_cons_zero, List.set_cons_succ]
            refine wpAnyH_take (i := 21) (oi := { dst := some 143, op := _, type := _, pos := _, after := _, guard := _ }) (v := ?_) rfl (by kernel_rfl) (by kernel_rfl) (by kernel_rfl) (fun _ _ _ h => h) (Or.inl ⟨by rfl, ?_⟩) (by assumption) ?_
            rotate_left
            · (intro w hSw; (try dsimp only at hSw); go_split_ands; go_simp <;> with_reducible rfl)
            try simp only [Act.put, List.setIfInBounds_toArray, List.set_cons_zero, List.set_cons_succ]
            refine wpAnyH_done (by kernel_rfl) ?_ _
            go_wp2_with fail
            go_split_ands
            go_roundw
            case rel => exact ⟨k + 1, by omega, by go_num, since_step hBe (by assumption)⟩
            case measure => simp [intOf]; omega
          · have hh := HQ4.out hS0
            have HC1 := Lib.hid (cmp_lt hh.1)
            have HC3 := Lib.hid (cmp_lt hh.2)
            clear hh hS0
            refine wp_region_held_drew (S := (fun V => Below W.heap.size W V ∧ V.cell? ⟨gS, 0, none⟩ = some (.bool sS) ∧ V.cell? ⟨gS, 1, none⟩ = some (.slice AS nS cS) ∧ V.cell? ⟨gL, 0, none⟩ = some (.bool sL) ∧ V.cell? ⟨gL, 1, none⟩ = some (.slice AL nL cL) ∧ V.cell? ⟨gE, 0, none⟩ = some (.bool sE) ∧ V.cell? ⟨gE, 1, none⟩ = some (.slice AE nE cE))) (by kernel_rfl) (by exact SO.out _ (Below.refl _ _).drew) (fun hHeld => ?_)
            refine wpAnyH_take (i := 0) (oi := { dst := some 122, op := _, type := _, pos := _, after := _, guard := _ }) (v := ?_) rfl (by kernel_rfl) (by kernel_rfl) (by kernel_rfl) (fun _ _ _ h => h) (Or.inl ⟨by rfl, ?_⟩) (by assumption) ?_
            rotate_left
            · (intro w hSw; (try dsimp only at hSw); go_split_ands; go_simp <;> with_reducible rfl)
            try simp only [Act.put, List.setIfInBounds_toArray, List.set_cons_zero, List.set_cons_succ]
            refine wpAnyH_take (i := 1) (oi := { dst := some 123, op := _, type := _, pos := _, after := _, guard := _ }) (v := ?_) rfl (by kernel_rfl) (by kernel_rfl) (by kernel_rfl) (fun _ _ _ h => h) (Or.inl ⟨by rfl, ?_⟩) (by assumption) ?_
            rotate_left
            · (intro w hSw; (try dsimp only at hSw); go_split_ands; go_simp <;> with_reducible rfl)
            try simp only [Act.put, List.setIfInBounds_toArray, List.set_cons_zero, List.set_cons_succ]
            refine wpAnyH_take (i := 3) (oi := { dst := some 125, op := _, type := _, pos := _, after := _, guard := _ }) (v := ?_) rfl (by kernel_rfl) (by kernel_rfl) (by kernel_rfl) (fun _ _ _ h => h) (Or.inl ⟨by rfl, ?_⟩) (by assumption) ?_
            rotate_left
            · (intro w hSw; (try dsimp only at hSw); go_split_ands; go_simp <;> with_reducible rfl)
            try simp only [Act.put, List.setIfInBounds_toArray, List.set_cons_zero, List.set_cons_succ]
            refine wpAnyH_ready (rs := [2]) (by kernel_rfl) (by simp) ?_
            refine AllReadyH.cons (o := { dst := some 124, op := _, type := _, pos := _, after := _, guard := _ }) rfl (fun K hK => ?_) AllReadyH.nil
            go_simp
            have hHd := hHeld
            (try dsimp only at hHd)
            go_split_ands
            (refine (bsub_any (vi * S) (a0 * li) _ _ _ _ _ _ _ _ _ (by omega) (by omega) (XL.out _ (by assumption)) (XE.out _ (by assumption))).mono ?_; rintro e u1 ⟨⟨t1, B1, m1, d1, rfl, hq1, Y1⟩, hk1⟩; have hkw1 := since_step (by assumption) hk1; have hm1 := HN1.out _ _ _ _ _ Y1)
            go_wp2_with fail
            refine hK.out _ _ (by (try dsimp only); (first | exact SO.out _ (by assumption) | exact SO.out _ (Below.refl _ _).drew | assumption)) (fun hHeld => ?_)
            clear hK K
            try simp only [Act.put, List.setIfInBounds_toArray, List.set_cons_zero, List.set_cons_succ]
            refine wpAnyH_ready (rs := [4]) (by kernel_rfl) (by simp) ?_
            refine AllReadyH.cons (o := { dst := some 126, op := _, type := _, pos := _, after := _, guard := _ }) rfl (fun K hK => ?_) AllReadyH.nil
            go_simp
            have hHd := hHeld
            (try dsimp only at hHd)
            go_split_ands
            (refine (bcmp_any (vi * S - a0 * li) S _ _ _ _ _ _ _ _ _ (by omega) (by omega) Y1 (XS.out _ (by assumption))).mono ?_; rintro e u2 ⟨rfl, hk2⟩; have hkw2 := since_step (by assumption) hk2; rw [HC1.out])
            go_wp2_with fail
            refine hK.out _ _ (by (try dsimp only); (first | exact SO.out _ (by assumption) | exact SO.out _ (Below.refl _ _).drew | assumption)) (fun hHeld => ?_)
            clear hK K
            try simp only [Act.put, List.setIfInBounds_toArray, List.set_cons_zero, List.set_cons_succ]
            refine wpAnyH_take (i := 5) (oi := { dst := some 127, op := _, type := _, pos := _, after := _, guard := _ }) (v := ?_) rfl (by kernel_rfl) (by kernel_rfl) (by kernel_rfl) (fun _ _ _ h => h) (Or.inl ⟨by rfl, ?_⟩) (by assumption) ?_
            rotate_left
            · (intro w hSw; (try dsimp only at hSw); go_split_ands; go_simp <;> with_reducible rfl)
            try simp only [Act.put, List.setIfInBounds_toArray, List.set_cons_zero, List.set_cons_succ]
            refine wpAnyH_take (i := 6) (oi := { dst := some 128, op := _, type := _, pos := _, after := _, guard := _ }) (v := ?_) rfl (by kernel_rfl) (by kernel_rfl) (by kernel_rfl) (fun _ _ _ h => h) (Or.inl ⟨by rfl, ?_⟩) (by assumption) ?_
            rotate_left
            · (intro w hSw; (try dsimp only at hSw); go_split_ands; go_simp <;> with_reducible rfl)
            try simp only [Act.put, List.setIfInBounds_toArray, List.set_cons_zero, List.set_cons_succ]
            refine wpAnyH_take (i := 7) (oi := { dst := some 129, op := _, type := _, pos := _, after := _, guard := _ }) (v := undef) rfl (by kernel_rfl) (by kernel_rfl) (by kernel_rfl) (fun _ _ _ h => h) (Or.inr ⟨by rfl, rfl⟩) (by assumption) ?_
            try simp only [Act.put, List.setIfInBounds_toArray, List.set_cons_zero, List.set_cons_succ]
            refine wpAnyH_take (i := 8) (oi := { dst := some 130, op := _, type := _, pos := _, after := _, guard := _ }) (v := undef) rfl (by kernel_rfl) (by kernel_rfl) (by kernel_rfl) (fun _ _ _ h => h) (Or.inr ⟨by rfl, rfl⟩) (by assumption) ?_
            try simp only [Act.put, List.setIfInBounds_toArray, List.set_cons_zero, List.set_cons_succ]
            refine wpAnyH_take (i := 9) (oi := { dst := some 131, op := _, type := _, pos := _, after := _, guard := _ }) (v := ?_) rfl (by kernel_rfl) (by kernel_rfl) (by kernel_rfl) (fun _ _ _ h => h) (Or.inl ⟨by rfl, ?_⟩) (by assumption) ?_
            rotate_left
            · (intro w hSw; (try dsimp only at hSw); go_split_ands; go_simp <;> with_reducible rfl)
            try simp only [Act.put, List.setIfInBounds_toArray, List.set_cons_zero, List.set_cons_succ]
            refine wpAnyH_take (i := 10) (oi := { dst := some 132, op := _, type := _, pos := _, after := _, guard := _ }) (v := ?_) rfl (by kernel_rfl) (by kernel_rfl) (by kernel_rfl) (fun _ _ _ h => h) (Or.inl ⟨by rfl, ?_⟩) (by assumption) ?_
            rotate_left
            · (intro w hSw; (try dsimp only at hSw); go_split_ands; go_simp <;> with_reducible rfl)
            try simp only [Act.put, List.setIfInBounds_toArray, List.set_cons_zero, List.set_cons_succ]
            refine wpAnyH_take (i := 11) (oi := { dst := some 133, op := _, type := _, pos := _, after := _, guard := _ }) (v := ?_) rfl (by kernel_rfl) (by kernel_rfl) (by kernel_rfl) (fun _ _ _ h => h) (Or.inl ⟨by rfl, ?_⟩) (by assumption) ?_
            rotate_left
            · (intro w hSw; (try dsimp only at hSw); go_split_ands; go_simp <;> with_reducible rfl)
            try simp only [Act.put, List.setIfInBounds_toArray, List.set_cons_zero, List.set_cons_succ]
            refine wpAnyH_take (i := 12) (oi := { dst := some 134, op := _, type := _, pos := _, after := _, guard := _ }) (v := ?_) rfl (by kernel_rfl) (by kernel_rfl) (by kernel_rfl) (fun _ _ _ h => h) (Or.inl ⟨by rfl, ?_⟩) (by assumption) ?_
            rotate_left
            · (intro w hSw; (try dsimp only at hSw); go_split_ands; go_simp <;> with_reducible rfl)
            try simp only [Act.put, List.setIfInBounds_toArray, List.set_cons_zero, List.set_cons_succ]
            refine wpAnyH_take (i := 14) (oi := { dst := some 136, op := _, type := _, pos := _, after := _, guard := _ }) (v := ?_) rfl (by kernel_rfl) (by kernel_rfl) (by kernel_rfl) (fun _ _ _ h => h) (Or.inl ⟨by rfl, ?_⟩) (by assumption) ?_
            rotate_left
            · (intro w hSw; (try dsimp only at hSw); go_split_ands; go_simp <;> with_reducible rfl)
            try simp only [Act.put, List.setIfInBounds_toArray, List.set_cons_zero, List.set_cons_succ]
            refine wpAnyH_ready (rs := [13]) (by kernel_rfl) (by simp) ?_
            refine AllReadyH.cons (o := { dst := some 135, op := _, type := _, pos := _, after := _, guard := _ }) rfl (fun K hK => ?_) AllReadyH.nil
            go_simp
            have hHd := hHeld
            (try dsimp only at hHd)
            go_split_ands
            (refine (bsub_any (a0 * li) (vi * S) _ _ _ _ _ _ _ _ _ (by omega) (by omega) (XE.out _ (by assumption)) (XL.out _ (by assumption))).mono ?_; rintro e u3 ⟨⟨t3, B3, m3, d3, rfl, hq3, Y3⟩, hk3⟩; have hkw3 := since_step (by assumption) hk3; have hm3 := HN3.out _ _ _ _ _ Y3)
            go_wp2_with fail
            refine hK.out _ _ (by (try dsimp only); (first | exact SO.out _ (by assumption) | exact SO.out _ (Below.refl _ _).drew | assumption)) (fun hHeld => ?_)
            clear hK K
            try simp only [Act.put, List.setIfInBounds_toArray, List.set_cons_zero, List.set_cons_succ]
            refine wpAnyH_ready (rs := [15]) (by kernel_rfl) (by simp) ?_
            refine AllReadyH.cons (o := { dst := some 137, op := _, type := _, pos := _, after := _, guard := _ }) rfl (fun K hK => ?_) AllReadyH.nil
            go_simp
            have hHd := hHeld
            (try dsimp only at hHd)
            go_split_ands
            (refine (bcmp_any (a0 * li - vi * S) S _ _ _ _ _ _ _ _ _ (by omega) (by omega) Y3 (XS.out _ (by assumption))).mono ?_; rintro e u4 ⟨rfl, hk4⟩; have hkw4 := since_step (by assumption) hk4; rw [HC3.out])
            go_wp2_with fail
            refine hK.out _ _ (by (try dsimp only); (first | exact SO.out _ (by assumption) | exact SO.out _ (Below.refl _ _).drew | assumption)) (fun hHeld => ?_)
            clear hK K
            try simp only [Act.put, List.setIfInBounds_toArray, List.set_cons_zero, List.set_cons_succ]
            refine wpAnyH_take (i := 16) (oi := { dst := some 138, op := _, type := _, pos := _, after := _, guard := _ }) (v := ?_) rfl (by kernel_rfl) (by kernel_rfl) (by kernel_rfl) (fun _ _ _ h => h) (Or.inl ⟨by rfl, ?_⟩) (by assumption) ?_
            rotate_left
            · (intro w hSw; (try dsimp only at hSw); go_split_ands; go_simp <;> with_reducible rfl)
            try simp only [Act.put, List.setIfInBounds_toArray, List.set_cons_zero, List.set_cons_succ]
            refine wpAnyH_take (i := 17) (oi := { dst := some 139, op := _, type := _, pos := _, after := _, guard := _ }) (v := ?_) rfl (by kernel_rfl) (by kernel_rfl) (by kernel_rfl) (fun _ _ _ h => h) (Or.inl ⟨by rfl, ?_⟩) (by assumption) ?_
            rotate_left
            · (intro w hSw; (try dsimp only at hSw); go_split_ands; go_simp <;> with_reducible rfl)
            try simp only [Act.put, List.setIfInBounds_toArray, List.set_cons_zero, List.set_cons_succ]
            refine wpAnyH_take (i := 18) (oi := { dst := some 140, op := _, type := _, pos := _, after := _, guard := _ }) (v := undef) rfl (by kernel_rfl) (by kernel_rfl) (by kernel_rfl) (fun _ _ _ h => h) (Or.inr ⟨by rfl, rfl⟩) (by assumption) ?_
            try simp only [Act.put, List.setIfInBounds_toArray, List.set_cons_zero, List.set_cons_succ]
            refine wpAnyH_take (i := 19) (oi := { dst := some 141, op := _, type := _, pos := _, after := _, guard := _ }) (v := undef) rfl (by kernel_rfl) (by kernel_rfl) (by kernel_rfl) (fun _ _ _ h => h) (Or.inr ⟨by rfl, rfl⟩) (by assumption) ?_
            try simp only [Act.put, List.setIfInBounds_toArray, List.set_cons_zero, List.set_cons_succ]
            refine wpAnyH_take (i := 20) (oi := { dst := some 142, op := _, type := _, pos := _, after := _, guard := _ }) (v := ?_) rfl (by kernel_rfl) (by kernel_rfl) (by kernel_rfl) (fun _ _ _ h => h) (Or.inl ⟨by rfl, ?_⟩) (by assumption) ?_
            rotate_left
            · (intro w hSw; (try dsimp only at hSw); go_split_ands; go_simp <;> with_reducible rfl)
            try simp only [Act.put, List.setIfInBounds_toArray, List.set_cons_zero, List.set_cons_succ]
            refine wpAnyH_take (i := 21) (oi := { dst := some 143, op := _, type := _, pos := _, after := _, guard := _ }) (v := ?_) rfl (by kernel_rfl) (by kernel_rfl) (by kernel_rfl) (fun _ _ _ h => h) (Or.inl ⟨by rfl, ?_⟩) (by assumption) ?_
            rotate_left
            · (intro w hSw; (try dsimp only at hSw); go_split_ands; go_simp <;> with_reducible rfl)
            try simp only [Act.put, List.setIfInBounds_toArray, List.set_cons_zero, List.set_cons_succ]
            refine wpAnyH_done (by kernel_rfl) ?_ _
            go_wp2_with fail
            go_split_ands
            go_roundw
            case rel => exact ⟨k + 1, by omega, by go_num, since_step hBe (by assumption)⟩
            case measure => simp [intOf]; omega
        · obtain rfl : k = l.length := by omega
          have HRB := fun W (h : Sl W A2 (ints .i64 v)) => rsum_any A2 c2 v W hvm HV64.out h
          rw [HPL.out, HSUM.out] at HRB
          have HRB := Lib.hid HRB
          have HL128 := fun W s A n c (h : BigAt W s A n c v.sum) => HSL.out v W s A n c h hvm HV64.out
          rw [HSUM.out] at HL128
          have HL128 := Lib.hid HL128
          have HCR := Lib.hid (cmp_refl a0)
          go_wp2_with fail
          refine (HRB.out _ (ha5.below hB)).mono ?_
          rintro e w6 ⟨⟨s6, A6, n6, c6, rfl, hf6, X6⟩, hb6⟩
          have hB6 := since_step hB hb6
          have hn6 := HL128.out _ _ _ _ _ X6
          clear hb6 hf6 hB
          go_wp2_with fail
          refine (bof_any a0 _ H64.out).mono ?_
          rintro e w7 ⟨⟨s7, A7, n7, c7, rfl, hf7, X7⟩, hb7⟩
          have hB7 := since_step hB6 hb7
          have X6 := X6.below hb7
          have hn7 := X7.l64 H64.out
          clear hb7 hf7 hB6
          go_wp2_with fail
          refine (bcmp_any a0 a0 _ _ _ _ _ _ _ _ _ (by omega) (by omega) X6 X7).mono ?_
          rintro e w8 ⟨rfl, hb8⟩
          have hB8 := since_step hB7 hb8
          rw [HCR.out]
          clear hb8 hB7 X6 X7
          go_wp2_with fail
          refine (lives3_any _).mono ?_
          rintro e w9 ⟨rfl, hb9⟩
          have hB9 := since_step hB8 hb9
          go_wp2_with fail
          go_ret
          exact ⟨rfl, since_step hB5 hB9⟩
  · have hv : splitV a0 l = [] := if_neg h0
    have hf0 : ¬ fillE a0 l = 0 := fun h => h0 (fill_split h).1
    rw [hv]
    generalize splitE a0 l = E at *
    generalize fillE a0 l = fe at *
    clear hv
    go_wp2_with fail
    refine (lives3_any _).mono ?_
    rintro e w4 ⟨rfl, hb4⟩
    have hB4 := since_step hB3 hb4
    go_wp2_with fail
    go_ret
    exact ⟨rfl, hB4⟩
end Go.Proofs.Ytckgifhidomhaaa
