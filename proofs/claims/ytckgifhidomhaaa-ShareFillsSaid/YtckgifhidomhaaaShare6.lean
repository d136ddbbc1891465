/-
  The walks of layer 3, sixth part: the document's Split.
-/
import Derived.Test.YtckgifhidomhaaaShare5
namespace Go.Proofs.Ytckgifhidomhaaa
open Go.ChangeShapes Go.WideShapes Go.ChangeAt Go.RowKit
set_option linter.unusedVariables false
set_option linter.unusedSimpArgs false

theorem of_alloc {w w2 : World} {o : Obj} (h : Below (w.alloc o).heap.size (w.alloc o) w2) : Below w.heap.size w w2 := since_step (since_alloc (Below.refl _ _) o) h

set_option maxRecDepth 100000 in
set_option maxHeartbeats 16000000 in
theorem rsplit_any (t : Int) (A : Option Addr) (cap : Nat) (l : List Int) (w : World) (hl : l.length ≤ 64) (hx : All64 l) (h64 : In64 t) (hs : Sl w A (ints .i64 l)) :
    Calls Try.prog 12 #[.int .i64 t, .slice A l.length cap] w fun e w' => rowR w w' e (splitV t l) (splitE t l) ∧ Below w.heap.size w w' := by
  have HB := Lib.hid (fun W (hb : Below w.heap.size w W) => why_any t A cap l W (by omega) hx (hs.below hb))
  by_cases hbad : mnL t l < 0
  · obtain ⟨e1, e2⟩ := split_bad hbad
    rw [e1, e2]
    have HD := Lib.hid (show whyE t l = 2 from if_pos hbad)
    clear e1 e2 hbad
    go_enter Try.func12, Try.ntmps12
    go_wp2_with fail
    refine (HB.out _ (Below.refl _ _)).mono ?_
    rintro e w1 ⟨rfl, hb1⟩
    rw [HD.out]
    go_wp2_with fail
    go_ret2
    exact ⟨rowR.no _ _ _, hb1⟩
  · obtain ⟨ht, hnn⟩ := mnL_nn.1 hbad
    have hsn := (mem_le_sum l hnn).1
    by_cases hin : In64 l.sum
    · have HD := Lib.hid (show whyE t l = 0 from (if_neg hbad).trans (if_pos hin))
      have HR := Lib.hid (fun W (hb : Below w.heap.size w W) => rsum_any A cap l W (by omega) hx (hs.below hb))
      have HI := Lib.hid (fun s A n c W (hX : BigAt W s A n c l.sum) => rint_any l.sum hin s A n c W hX)
      by_cases h0 : l.sum = 0 ∧ 0 < t
      · obtain ⟨e1, e2⟩ := split_zero hbad h0.1 h0.2
        rw [e1, e2]
        obtain ⟨h01, h02⟩ := h0
        rw [h01] at HR HI
        clear e1 e2 hbad
        go_enter Try.func12, Try.ntmps12
        go_wp2_with fail
        refine (HB.out _ (Below.refl _ _)).mono ?_
        rintro e w1 ⟨rfl, hb1⟩
        rw [HD.out]
        go_wp2_with fail
        refine (HR.out _ hb1).mono ?_
        rintro e w2 ⟨⟨s2, A2, n2, c2, rfl, hf2, X2⟩, hb2⟩
        have hB2 := since_step hb1 hb2
        clear hb1 hb2
        go_wp2_with fail
        refine (HI.out _ _ _ _ _ X2).mono ?_
        rintro e w3 ⟨rfl, hb3⟩
        have hB3 := since_step hB2 hb3
        clear hb3
        go_wp2_with fail
        go_ret2
        exact ⟨rowR.no _ _ _, hB3⟩
      · obtain ⟨e1, e2⟩ := split_ok hbad hin h0
        rw [e1, e2]
        obtain ⟨S, hS⟩ : ∃ S : Nat, l.sum = (S : Int) := ⟨l.sum.toNat, by omega⟩
        have hS64 : S < 9223372036854775808 := by unfold In64 at hin; omega
        have hSt : S = 0 → t = 0 := fun h => by
          refine Decidable.byContradiction fun hne => h0 ⟨by omega, by omega⟩
        obtain ⟨q, hq⟩ : ∃ q, q = quoL t S l := ⟨_, rfl⟩
        obtain ⟨r, hr⟩ : ∃ r, r = remL t S l := ⟨_, rfl⟩
        have hql : q.length = l.length := by rw [hq, quo_length]
        have hrl : r.length = l.length := by rw [hr, rem_length]
        have hqn : ∀ x ∈ q, 0 ≤ x := by rw [hq]; exact quo_nn ht (by omega) hnn
        have hP : partsV t l = bump q r (t - q.sum).toNat := by unfold partsV; rw [hS, hq, hr]
        have hq0 : S = 0 → (∀ k, (h : k < l.length) → q[k]'(by omega) = 0 ∧ r[k]'(by omega) = 0) := fun h k hk => by
          have ht0 := hSt h
          subst hq; subst hr
          simp [quoL, remL, ht0]
        have hlf : 0 ≤ t - q.sum ∧ (0 < t - q.sum → t - q.sum < (posL r : Int)) := by
          rcases Nat.eq_zero_or_pos S with h | h
          · have ht0 := hSt h
            have : q.sum = 0 := by
              have key : ∀ m : List Int, (∀ x ∈ m, x = 0) → m.sum = 0 := by
                intro m
                induction m with
                | nil => intro _; rfl
                | cons a m ih => intro hm; rw [List.sum_cons, ih fun x hx => hm x (by simp [hx]), hm a (by simp)]; rfl
              refine key q fun x hx => ?_
              obtain ⟨j, hj, rfl⟩ := List.getElem_of_mem hx
              exact (hq0 h j (by omega)).1
            omega
          · rw [hq, hr]; exact left_lt l (by omega) hS
        have hrn : ∀ k, 0 ≤ r.getD k 0 := by
          intro k
          rcases Nat.eq_zero_or_pos S with h | h
          · rw [List.getD_eq_getElem?_getD]
            by_cases hk : k < r.length
            · rw [List.getElem?_eq_getElem hk]; simp [(hq0 h k (by omega)).2]
            · rw [List.getElem?_eq_none (by omega)]; simp
          · rw [hr]; exact rem_nn (by omega) l k
        have hru : ∀ k, (h : k < r.length) → 0 ≤ r[k] ∧ r[k] < 18446744073709551616 := by
          intro k hk
          rcases Nat.eq_zero_or_pos S with h | h
          · rw [(hq0 h k (by omega)).2]; decide
          · subst hr
            simp only [remL, List.getElem_map]
            have := Int.emod_nonneg (t * l[k]'(by omega)) (show (S : Int) ≠ 0 by omega)
            have := Int.emod_lt_of_pos (t * l[k]'(by omega)) (show (0 : Int) < (S : Int) by omega)
            omega
        have HQ : 0 < S → ∀ k, (h : k < l.length) → t * l[k] / (S : Int) = q[k]'(by omega) ∧ t * l[k] % (S : Int) = r[k]'(by omega) ∧ In64 (t * l[k] / (S : Int)) := by
          intro h0 k h
          have hxk := hnn _ (List.getElem_mem h)
          have hle := (mem_le_sum l hnn).2 _ (List.getElem_mem h)
          refine ⟨?_, ?_, (quota_in ht h64 hxk (by omega) (by omega)).2.2⟩
          · subst hq; rw [quo_at]
          · subst hr; simp [remL]
        have HQ := Lib.hid HQ
        have HQ0 := Lib.hid hq0
        have HRU := Lib.hid hru
        have hts : ∀ k, 0 ≤ (q.take k).sum ∧ (q.take k).sum ≤ t := fun k => by have := sum_take_le q hqn k; omega
        have HTS := Lib.hid hts
        have HRN := Lib.hid hrn
        have HQN := Lib.hid hqn
        have HP := Lib.hid hP
        have HL := Lib.hid hql
        have HRL := Lib.hid hrl
        have HX := Lib.hid hx
        have HNN := Lib.hid hnn
        have HSS := Lib.hid hS
        have HLF := Lib.hid hlf
        have k2 : IntKind.u64.wrap (S : Int) = (S : Int) := by rw [IntKind.wrap_u64]; omega
        rw [hS] at HI HR
        have hg : ¬ ((S : Int) = 0 ∧ 0 < t) := by omega
        unfold In64 at h64
        clear e1 e2 hbad h0 hq hr hts hrn hqn hP hq0 hru hSt hlf hnn hin hsn
        go_enter Try.func12, Try.ntmps12
        go_wp2_with fail
        refine (HB.out _ (Below.refl _ _)).mono ?_
        rintro e w1 ⟨rfl, hb1⟩
        rw [HD.out]
        go_wp2_with fail
        refine (HR.out _ hb1).mono ?_
        rintro e w2 ⟨⟨s2, A2, n2, c2, rfl, hf2, X2⟩, hb2⟩
        have hB2 := since_step hb1 hb2
        clear hb1 hb2
        go_wp2_with fail
        refine (HI.out _ _ _ _ _ X2).mono ?_
        rintro e w3 ⟨rfl, hb3⟩
        have hB3 := since_step hB2 hb3
        clear hb3 hB2 X2 hf2
        have HW3 := Lib.hid (fun (W : World) (hb : Below w.heap.size w W) (g : Below w.heap.size w W) => g)
        have hcase : (S = 0 ∧ t = 0) ∨ 0 < S := by omega
        have hB4 := hB3
        rcases hcase with ⟨hc1, hc2⟩ | hc1
        all_goals
          go_wp2_with fail
          go_loopw [8, 9, 10, 11] (fun s8 s9 s10 s11 wr => ∃ (k : Nat) (A8 A9 : Option Addr) (c8 c9 : Nat), s8 = .slice A8 k c8 ∧ s9 = .slice A9 k c9 ∧ s10 = .int .i64 (t - (q.take k).sum) ∧ s11 = .int .i64 k ∧ k ≤ l.length ∧
            wr.ownsRow w.heap.size 2 1 (.slice A8 k c8) k (ints .i64 (q.take k)) ∧ wr.ownsRow w.heap.size 47 1 (.slice A9 k c9) k (ints .u64 (r.take k)) ∧ Below w.heap.size w wr) (fun _ _ _ i _ => l.length - (intOf i).toNat)
          case atStart => exact ⟨0, none, none, 0, 0, rfl, rfl, intE (by first | (simp; done) | (simp; omega)), rfl, by omega, own_nil _ _ _, own_nil _ _ _, hB4⟩
          case round =>
            clear hB3 hB4
            obtain ⟨k, A8, A9, c8, c9, rfl, rfl, rfl, rfl, hk, o8, o9, hB⟩ := hrel
            by_cases hlt : k < l.length
            · obtain ⟨b, o, rfl, hz⟩ := (hs.below hB).int hlt
              have hbr := World.block_lt_of_cell? _ _ hz
              have hsk := sum_take_succ q k (by rw [HL.out]; exact hlt)
              have HQT := Lib.hid (take_snoc q k (by rw [HL.out]; exact hlt))
              have HRT := Lib.hid (take_snoc r k (by rw [HRL.out]; exact hlt))
              have hts0 := HTS.out k
              have hts1 := HTS.out (k + 1)
              have hru0 := HRU.out k (by rw [HRL.out]; exact hlt)
              have HSK := Lib.hid hsk
              rw [hsk] at hts1
              have hxk := hx _ (List.getElem_mem hlt)
              obtain ⟨v10, hv10⟩ : ∃ v, v = t - (q.take k).sum := ⟨_, rfl⟩
              rw [← hv10]
              have HV10 := Lib.hid hv10
              clear hv10
              go_upto_if 41 with fail
              go_cut [12, 13] (fun s12 s13 wx => s12 = .int .i64 (q[k]'(by rw [HL.out]; exact hlt)) ∧ s13 = .int .u64 (r[k]'(by rw [HRL.out]; exact hlt)) ∧ Below wr.heap.size wr wx)
              case first =>
                rcases Nat.eq_zero_or_pos S with hS0 | hS0
                · obtain ⟨q0, r0⟩ := HQ0.out hS0 k hlt
                  first
                    | omega
                    | (subst hS0
                       go_wp2_with fail
                       go_meet
                       case rel => exact ⟨intE q0.symm, intE r0.symm, Below.refl _ _⟩)
                · first
                    | omega
                    | (obtain ⟨q1, r1, h641⟩ := HQ.out hS0 k hlt
                       have ht64 : In64 t := h64
                       have tk1 : True := trivial
                       have g0 : ¬ ((S : Int) ≤ 0) := by omega
                       have g1 : 0 < (S : Int) := by omega
                       have hq64 : In64 (q[k]'(by rw [HL.out]; exact hlt)) := q1 ▸ h641
                       generalize l[k] = x at *
                       generalize q[k]'(by rw [HL.out]; exact hlt) = qk at *
                       generalize r[k]'(by rw [HRL.out]; exact hlt) = rk0 at *
                       have HDV := fun s A n c W la (hX : BigAt W s A n c (t * x)) => bdiv_any (t * x) s A n c S W la hS0 hS64 hX
                       rw [q1, r1] at HDV
                       have HDV := Lib.hid HDV
                       have HIQ := Lib.hid (fun s A n c W (hX : BigAt W s A n c qk) => rint_any qk hq64 s A n c W hX)
                       clear q1 r1 h641 hq64
                       go_upto_region 15 with fail
                       go_region_with (first
                         | (go_at_call 21; clear tk1; refine (bof_any _ _ (by assumption)).mono ?_; rintro e v1 ⟨⟨s1, A1, n1, c1, rfl, hf1, X1⟩, hb1⟩; have bb1 : Below wr.heap.size wr v1 := (by first | (with_reducible exact since_step (Below.refl wr.heap.size wr).drew hb1) | (with_reducible exact since_step (since_alloc (Below.refl wr.heap.size wr) _).drew hb1)); have N1 : n1 ≤ 64 := X1.l64 (by assumption); have bw1 := bb1; have hz := (bb1.cell (p := ⟨b, o + k, none⟩) hbr).trans hz; have hbk := Nat.lt_of_lt_of_le hbr bb1.size; (first | have G : BB v1 wr.heap.size false none 0 0 := (BB.new wr false none 0 0 39).drew.below (by with_reducible exact hb1) | skip); (first | obtain ⟨g0, g1, g2, g3, g4⟩ := _root_.id G | skip); clear hb1 hf1)
                         | (go_at_call 21; refine (bof_any _ _ (by assumption)).mono ?_; rintro e v2 ⟨⟨s2, A2, n2, c2, rfl, hf2, X2⟩, hb2⟩; have bb2 : Below v1.heap.size v1 v2 := (by first | (with_reducible exact hb2) | (with_reducible exact of_alloc hb2)); have N2 : n2 ≤ 64 := X2.l64 (by assumption); have bw2 := since_step bw1 bb2; have X1 := X1.below bb2; (first | have G := G.below bb2 | have G : BB v2 v1.heap.size false none 0 0 := (BB.new v1 false none 0 0 39).below (by with_reducible exact hb2) | skip); (first | obtain ⟨g0, g1, g2, g3, g4⟩ := _root_.id G | skip); clear hb2 hf2)
                         | (go_at_call 22; refine (bmul_any _ _ _ _ _ _ _ _ _ _ _ (by omega) (by omega) (by first | assumption | exact BigAt.alloc (by assumption) _) (by first | assumption | exact BigAt.alloc (by assumption) _)).mono ?_; rintro e v3 ⟨⟨s3, A3, n3, c3, rfl, hf3, X3⟩, hb3⟩; have bb3 : Below v2.heap.size v2 v3 := (by first | (with_reducible exact hb3) | (with_reducible exact of_alloc hb3)); have N3 : n3 ≤ 128 := (by first | (have := len_mul X1 X2 X3; omega) | (have := len_mul X2 X1 X3; omega)); have bw3 := since_step bw2 bb3; (first | have G := G.below bb3 | have G : BB v3 v2.heap.size false none 0 0 := (BB.new v2 false none 0 0 39).below (by with_reducible exact hb3) | skip); (first | obtain ⟨g0, g1, g2, g3, g4⟩ := _root_.id G | skip); clear hb3 hf3)
                         | (go_at_call 43; refine (HDV.out _ _ _ _ _ (by omega) (by first | assumption | exact BigAt.alloc (by assumption) _ | (rw [Int.mul_comm]; assumption) | (rw [Int.mul_comm]; exact BigAt.alloc (by assumption) _))).mono ?_; rintro e v4 ⟨⟨s4, A4, n4, c4, rfl, hf4, X4⟩, hb4⟩; have bb4 : Below v3.heap.size v3 v4 := (by first | (with_reducible exact hb4) | (with_reducible exact of_alloc hb4)); have hsz4 : v3.heap.size ≤ v4.heap.size := bb4.size; have bw4 := since_step bw3 bb4; (first | have hgl := G.1 | skip); (first | have G := G.below bb4 | have G : BB v4 v3.heap.size false none 0 0 := (BB.new v3 false none 0 0 39).below (by with_reducible exact hb4) | skip); (first | obtain ⟨g0, g1, g2, g3, g4⟩ := _root_.id G | skip); clear hb4))
                       all_goals
                         have hcs := @cell_set
                         have z1 := bw1.size
                         have z2 := bw2.size
                         have z3 := bw3.size
                         have z4 := bw4.size
                         go_wp2_with fail
                         refine (HIQ.out _ _ _ _ _ (by first | exact X4.alloc _ | exact (X4.far (fun b o hA h0 => by have h9 := hf4 b o hA h0; (try simp at h9); simp; omega) _).far (fun b o hA h0 => by have h9 := hf4 b o hA h0; (try simp at h9); simp; omega) _)).mono ?_
                         rintro e v5 ⟨rfl, hb5⟩
                         have bw5 : Below wr.heap.size wr v5 := (by
                           first
                             | exact since_step (since_alloc bw4 _) hb5
                             | exact bw4.trans (Below.trans (Below.setCell (Below.setCell (Below.refl wr.heap.size v4) (by first | (simp; done) | (simp; omega)) _) (by first | (simp; done) | (simp; omega)) _) (hb5.mono (by simp; exact bw4.size))))
                         clear hb5
                         go_wp2_with fail
                         go_meet
                         case rel => exact ⟨rfl, rfl, bw5⟩)
              case rest =>
                obtain ⟨rfl, rfl, hbx⟩ := hcut
                have hBx := since_step hB hbx
                have o8' := own_below' o8 hbx
                have o9' := own_below' o9 hbx
                generalize q[k]'(by rw [HL.out]; exact hlt) = qk at *
                generalize r[k]'(by rw [HRL.out]; exact hlt) = rk0 at *
                have hvr : 0 ≤ v10 ∧ v10 ≤ t ∧ 0 ≤ v10 - qk ∧ v10 - qk ≤ t := by have := HV10.out; omega
                clear hz hbr o8 o9 hB hbx hts0 hts1 hsk
                go_wp2_with (first
                  | (at_builtin; refine wpList_app rfl (.tmp 59) (.tmp 61) rfl EI rfl rfl (o8'.alloc (.cells #[.int .i64 qk] 2)) (m := 1) (news := [.int .i64 qk]) rfl (Sl.new_ _ _ _) (by intro u hu; simp at hu; rw [hu]; rfl) (by unfold maxLen; omega) (by omega) (by have := hBx.size; simp; omega) ?_; intro A10 c10 w10 hown10 hg10 hb10; have o9k := (o9'.alloc (.cells #[.int .i64 qk] 2)).kept hg10 (own_apart (o9'.alloc (.cells #[.int .i64 qk] 2)) (o8'.alloc (.cells #[.int .i64 qk] 2)) (by decide)); have hB10 := (since_alloc hBx (.cells #[.int .i64 qk] 2)).trans hb10; have hz10 := hB10.size)
                  | (at_builtin; refine wpList_app rfl (.tmp 63) (.tmp 65) rfl EUL rfl rfl (o9k.alloc (.cells #[.int .u64 rk0] 47)) (m := 1) (news := [.int .u64 rk0]) rfl (Sl.new_ _ _ _) (by intro u hu; simp at hu; rw [hu]; rfl) (by unfold maxLen; omega) (by omega) (by simp; omega) ?_; intro A11 c11 w11 hown11 hg11 hb11)
                  | fail)
                have hB11 := (since_alloc hB10 (.cells #[.int .u64 rk0] 47)).trans hb11
                have o10k := (hown10.alloc (.cells #[.int .u64 rk0] 47)).kept hg11 (own_apart (hown10.alloc (.cells #[.int .u64 rk0] 47)) (o9k.alloc (.cells #[.int .u64 rk0] 47)) (by decide))
                go_roundw
                case rel =>
                  refine ⟨k + 1, A10, A11, c10, c11, rfl, rfl, intE ?_, intE (by omega), by omega, ?_, ?_, hB11⟩
                  · rw [HSK.out, HV10.out]; omega
                  · rw [HQT.out, ints_app]; exact o10k
                  · rw [HRT.out, ints_app]; exact hown11
                case measure => simp [intOf]; omega
            · obtain rfl : k = l.length := by omega
              have ht1 : q.take l.length = q := List.take_of_length_le (by rw [HL.out]; exact Nat.le_refl _)
              have ht2 : r.take l.length = r := List.take_of_length_le (by rw [HRL.out]; exact Nat.le_refl _)
              rw [ht1] at o8 ⊢
              rw [ht2] at o9
              obtain ⟨M, hM⟩ : ∃ M : Nat, t - q.sum = (M : Int) := ⟨(t - q.sum).toNat, by have := HLF.out.1; omega⟩
              have hMp : 0 < M → M < posL r := fun h => by have := HLF.out.2 (by omega); omega
              have hM2 : (t - q.sum).toNat = M := by omega
              have hml : M ≤ l.length := by
                have : posL r ≤ r.length := by
                  unfold posL
                  exact Nat.le_trans List.countP_le_length (by simp)
                rw [HRL.out] at this
                rcases Nat.eq_zero_or_pos M with h | h
                · omega
                · have := hMp h; omega
              rw [hM]
              have hP2 : partsV t l = bump q r M := by rw [HP.out, hM2]
              have HP2 := Lib.hid hP2
              have HMP := Lib.hid hMp
              have HM0 := Lib.hid hM2
              have hcap := own_cap' o8
              have hpl := partsV_length t l
              have HPL := Lib.hid hpl
              clear ht1 ht2 hM hM2 hMp hP2 hpl
              rcases Nat.eq_zero_or_pos l.length with hn0 | hn0
              · obtain rfl : M = 0 := by omega
                go_wp2_with fail
                go_loopw [10] (fun s wz => s = .int .i64 0 ∧ Below w.heap.size w wz) (fun _ _ => 0)
                case atStart => exact ⟨rfl, hB⟩
                case round =>
                  clear hB o8 o9
                  obtain ⟨rfl, hB⟩ := hrel
                  go_wp2_with fail
                  go_ret2
                  refine ⟨⟨A8, c8, by rw [HPL.out]; rfl, by rw [HPL.out]; exact hcap, ?_, fun b o _ h => by rw [HPL.out] at h; omega⟩, hB⟩
                  rw [show partsV t l = [] from List.eq_nil_of_length_eq_zero (by rw [HPL.out]; exact hn0)]
                  exact Sl.nil
              · obtain ⟨g8, rfl, hg8, hl8, hf8⟩ := own_at o8 hn0
                obtain ⟨g9, rfl, hg9, hl9, hf9⟩ := own_at o9 hn0
                have R8 := Rw.own o8 hn0
                have R9 := Rw.own o9 hn0
                have hne : g8 ≠ g9 := by
                  rcases own_apart o8 o9 (by decide) with h | h
                  · simp [Value.ownBlock] at h
                  · intro e; subst e; simp [Value.ownBlock] at h
                have hne' : g9 ≠ g8 := fun e => hne e.symm
                have HB0 := Lib.hid (bump_zero q r)
                have HG0 := Lib.hid (gone_zero r)
                clear o8 o9 hf8 hf9 hl8 hl9
                go_wp2_with fail
                go_loopw [10] (fun s wz => ∃ j : Nat, j ≤ M ∧ s = .int .i64 ((M : Int) - (j : Int)) ∧ Rw wz g8 (ints .i64 (bump q r j)) ∧ Rw wz g9 (ints .u64 (goneL r j)) ∧ Below w.heap.size w wz) (fun s _ => (intOf s).toNat)
                case atStart => exact ⟨0, by omega, intE (by simp), by rw [HB0.out]; exact R8, by rw [HG0.out]; exact R9, hB⟩
                case round =>
                  clear hB R8 R9
                  obtain ⟨j, hj, rfl, R8, R9, hB⟩ := hrel
                  by_cases hjm : j < M
                  · have hgl := gone_length r j
                    rw [HRL.out] at hgl
                    have hbl := bump_length q r j
                    rw [HL.out] at hbl
                    have HGL := Lib.hid hgl
                    have HBL := Lib.hid hbl
                    have hv0 : ∀ i, (h : i < (goneL r j).length) → 0 ≤ (goneL r j)[i] := fun i h => by
                      rw [gone_at]
                      split
                      · exact Int.le_refl _
                      · exact HRN.out i
                    clear hv0
                    go_wp2_with fail
                    generalize wr = wz at *
                    go_loopw [16, 17] (fun sb si wr => ∃ (i b : Nat), sb = .int .i64 b ∧ si = .int .i64 i ∧ i ≤ l.length ∧ b < l.length ∧ (b ≤ i) ∧ Hid (∀ x, (hx : x < (goneL r j).length) → (hb : b < (goneL r j).length) → (x < i → (goneL r j)[x] ≤ (goneL r j)[b]) ∧ (x < b → (goneL r j)[x] < (goneL r j)[b])) ∧ Below wz.heap.size wz wr) (fun _ si _ => l.length - (intOf si).toNat)
                    case atStart => exact ⟨0, 0, rfl, rfl, by omega, hn0, by omega, Lib.hid (fun x hx hb => ⟨fun h => absurd h (by omega), fun h => absurd h (by omega)⟩), Below.refl _ _⟩
                    case round =>
                      obtain ⟨i, bb, rfl, rfl, hi, hb, hbi, HZ, hBz⟩ := hrel
                      by_cases hlt : i < l.length
                      · have c1 := (R9.below hBz).int (j := i) (by rw [HGL.out]; exact hlt)
                        have c2 := (R9.below hBz).int (j := bb) (by rw [HGL.out]; exact hb)
                        have l1 := (R9.below hBz).1
                        by_cases hz : (goneL r j)[bb]'(by rw [HGL.out]; exact hb) < (goneL r j)[i]'(by rw [HGL.out]; exact hlt)
                        · have HZ2 : Hid (∀ x, (hx : x < (goneL r j).length) → (hb : i < (goneL r j).length) → (x < i + 1 → (goneL r j)[x] ≤ (goneL r j)[i]) ∧ (x < i → (goneL r j)[x] < (goneL r j)[i])) := Lib.hid (fun x hx hb2 => by
                            have h := HZ.out x hx (by rw [HGL.out]; exact hb)
                            refine ⟨fun h1 => ?_, fun h1 => by have := h.1 h1; omega⟩
                            rcases Nat.lt_or_ge x i with h2 | h2
                            · have := h.1 h2; omega
                            · obtain rfl : x = i := by omega
                              exact Int.le_refl _)
                          generalize (goneL r j)[bb]'(by rw [HGL.out]; exact hb) = zb at *
                          generalize (goneL r j)[i]'(by rw [HGL.out]; exact hlt) = zi at *
                          have e1 : decide (zb < zi) = true := decide_eq_true hz
                          go_wp2
                          go_quiet (fail)
                          go_wp2
                          go_roundw
                          case rel => exact ⟨i + 1, i, rfl, by go_num, by omega, by omega, by omega, HZ2, below_drewN hBz _⟩
                          case measure => simp [intOf]; omega
                        · have HZ2 : Hid (∀ x, (hx : x < (goneL r j).length) → (hb : bb < (goneL r j).length) → (x < i + 1 → (goneL r j)[x] ≤ (goneL r j)[bb]) ∧ (x < bb → (goneL r j)[x] < (goneL r j)[bb])) := Lib.hid (fun x hx hb2 => by
                            have h := HZ.out x hx hb2
                            refine ⟨fun h1 => ?_, h.2⟩
                            rcases Nat.lt_or_ge x i with h2 | h2
                            · exact h.1 h2
                            · obtain rfl : x = i := by omega
                              omega)
                          generalize (goneL r j)[bb]'(by rw [HGL.out]; exact hb) = zb at *
                          generalize (goneL r j)[i]'(by rw [HGL.out]; exact hlt) = zi at *
                          have e1 : decide (zb < zi) = false := decide_eq_false hz
                          go_wp2
                          go_quiet (fail)
                          go_wp2
                          go_roundw
                          case rel => exact ⟨i + 1, bb, rfl, by go_num, by omega, hb, by omega, HZ2, below_drewN hBz _⟩
                          case measure => simp [intOf]; omega
                      · obtain rfl : i = l.length := by omega
                        have hrk : rk r bb = j := best_rk (r := r) (k := j) (b := bb) HRN.out (by have := HMP.out (by omega); omega) (by rw [HGL.out]; exact hb)
                          (fun x hx => (HZ.out x hx (by rw [HGL.out]; exact hb)).1 (by have := HGL.out; omega)) (fun x hx => (HZ.out x (by have := HGL.out; omega) (by rw [HGL.out]; exact hb)).2 hx)
                        have R8' := R8.below hBz
                        have R9' := R9.below hBz
                        have hBB := since_step hB hBz
                        have hbl2 : bb < (bump q r j).length := by rw [HBL.out]; exact hb
                        have hgl2 : bb < (goneL r j).length := by rw [HGL.out]; exact hb
                        have hbs := Lib.hid (bump_set (q := q) (r := r) (by rw [HL.out, HRL.out]) hbl2 hrk)
                        have hgs := Lib.hid (gone_set (r := r) hgl2 hrk)
                        have c1 := R8'.int hbl2
                        have c2 := R9'.int hgl2
                        have f1 := R8'.2.2 bb
                        have f2 := R9'.2.2 bb
                        have l1 := R8'.1
                        have l2 := R9'.1
                        have hv : 0 ≤ (bump q r j)[bb] ∧ (bump q r j)[bb] + 1 ≤ 9223372036854775807 := by
                          rw [bump_at, hrk, if_neg (by omega)]
                          have h0 : bb < q.length := by rw [HL.out]; exact hb
                          have h1 : q.getD bb 0 = q[bb] := by rw [List.getD_eq_getElem?_getD, List.getElem?_eq_getElem h0]; rfl
                          have h2 := mem_le_sum q HQN.out
                          have h3 := h2.2 _ (List.getElem_mem h0)
                          have h4 := HQN.out _ (List.getElem_mem h0)
                          have h5 := HLF.out.1
                          have h6 := HMP.out (by omega)
                          have h7 : 0 < t - q.sum := by
                            have := HP.out
                            refine Decidable.byContradiction fun hn => ?_
                            have h8 : (t - q.sum).toNat = 0 := by omega
                            have h9 := HM0.out
                            omega
                          rw [h1]
                          omega
                        generalize (bump q r j)[bb] = vb at *
                        generalize (goneL r j)[bb] = vg at *
                        clear R8 R9 hB HZ
                        go_wp2_with fail
                        go_roundw
                        case rel =>
                          refine ⟨j + 1, by omega, intE (by omega), ?_, ?_, ?_⟩
                          · rw [← hbs.out, ← ints_set]
                            exact (R8'.set (by rw [ints_length]; exact hbl2) _).far (by simpa using hne') _
                          · rw [← hgs.out, ← ints_set]
                            exact (R9'.far (by simpa using hne) _).set (by rw [ints_length]; exact hgl2) _
                          · refine Below.setCell (Below.setCell hBB ?_ _) ?_ _ <;> first | (simp; done) | (simp; omega)
                        case measure => simp [intOf] <;> omega
                  · obtain rfl : j = M := by omega
                    go_wp2_with fail
                    go_ret2
                    refine ⟨⟨some ⟨g8, 0, none⟩, c8, by rw [HPL.out]; rfl, by rw [HPL.out]; exact hcap, ?_, ?_⟩, hB⟩
                    · rw [HP2.out]; exact R8.2.1
                    · intro b o e h
                      injection e with e; injection e with e
                      omega
    · obtain ⟨e1, e2⟩ := split_far hbad hin
      rw [e1, e2]
      have HD := Lib.hid (show whyE t l = 7 from (if_neg hbad).trans (if_neg hin))
      clear e1 e2 hbad
      go_enter Try.func12, Try.ntmps12
      go_wp2_with fail
      refine (HB.out _ (Below.refl _ _)).mono ?_
      rintro e w1 ⟨rfl, hb1⟩
      rw [HD.out]
      go_wp2_with fail
      go_ret2
      exact ⟨rowR.no _ _ _, hb1⟩
end Go.Proofs.Ytckgifhidomhaaa
