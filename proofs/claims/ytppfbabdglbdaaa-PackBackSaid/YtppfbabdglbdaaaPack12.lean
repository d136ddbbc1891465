/-
  Layer 4, twelfth part: PackWrites, the walk (laid by gen_pack12.py).
-/
import Derived.Test.YtppfbabdglbdaaaPack11
namespace Go.Proofs.Ytppfbabdglbdaaa
open Go.ChangeShapes Go.WideShapes Go.ChangeAt Go.RowKit
set_option linter.unusedVariables false
set_option linter.unusedSimpArgs false

theorem packL_len : ∀ {l : List Int}, (∀ x ∈ l, In64p x) → (packL l).length ≤ 10 * l.length
  | [], _ => by simp [packL]
  | n :: l, h => by
    rw [packL_cons, List.length_append, List.length_cons]
    have h1 := packL_len (l := l) fun x hx => h x (by simp [hx])
    have h2 : (packI n).length ≤ 10 := vb_len10 (zz_lt (h n (by simp)))
    omega
theorem packT_len {s : List Nat} (h : s.length ≤ 1000000) : (packT s).length ≤ s.length + 10 := by
  rw [packT, List.length_append]
  have h2 : (packI (s.length : Int)).length ≤ 10 := vb_len10 (zz_lt (by unfold In64p; omega))
  omega
theorem short3_size (s : ByteArray) : (short3 s).size ≤ 300 := by
  unfold short3
  split
  · rw [ByteArray.size_extract]; omega
  · omega

set_option maxHeartbeats 4000000 in
set_option maxRecDepth 100000 in
theorem walk_PackWrites (a0 : Option Addr) (n0 c0 : Nat) (w : World) (w0 : Go.Proofs.Ytppfbabdglbdaaa.Rd w (.sl (.cat (.int .i64) (.cat (.sl (.int .i64)) (.cat .str (.cat (.int .i64) (.cat (.int .i64) (.cat (.int .i64) .nil))))))) [.slice a0 n0 c0]) :
    Calls Try.prog 3 #[.slice a0 n0 c0] w fun e w' => e = .returned (.bool true) ∧ Below w.heap.size w w' := by
  obtain ⟨l, rfl, hsc, hscm, hS, hok⟩ := rd_rowsP (f := Dw.cells) (fun r => rd_dw) w0
  have hlm : l.length ≤ maxLen := by omega
  unfold maxLen at hlm
  have HN := Lib.hid (wnew_S w)
  have HLV := Lib.hid (fun V => lives4_any V)
  have HOK := Lib.hid hok
  have HS := Lib.hid hS
  obtain ⟨W, hWe⟩ : ∃ W, w.heap.size = W := ⟨_, rfl⟩
  have HWe := Lib.hid hWe
  rw [hWe] at HN ⊢
  clear w0 hsc hscm hok hS hWe
  go_enter Try.func3, Try.ntmps3
  go_wp2_with fail
  refine HN.out.mono ?_
  rintro e w1 ⟨g, rfl, hS1, hB1⟩
  clear HN
  go_wp2_with fail
  go_loopw [3, 4, 5] (fun pv ov iv wr => ∃ (k : Nat) (A : Option Addr) (c : Nat) (bs : List Nat) (A2 : Option Addr) (c2 : Nat), k ≤ l.length ∧ k ≤ 30 ∧ pv = .pointer (some ⟨g, 0, none⟩) ∧ ov = .slice A2 bs.length c2 ∧ iv = .int .i64 k ∧ bs.length ≤ 400 * k ∧ Pair W wr g A c bs A2 c2 bs ∧ Below W w wr) (fun _ _ iv _ => l.length - (intOf iv).toNat)
  case atStart => exact ⟨0, none, 0, [], none, 0, by omega, by omega, rfl, rfl, rfl, by simp, ⟨hS1, own_nil _ _ _, by simp [Value.ownBlock], Apart.none _⟩, hB1⟩
  case round =>
    obtain ⟨k, A, c, bs, A2, c2, hk, hk30, rfl, rfl, rfl, hbl, hP, hB⟩ := hrel
    clear hS1 hB1
    have hWs : W ≤ wr.heap.size := by have := hB.size; have := HWe.out; omega
    have HEND : Hid (∀ V, Below wr.heap.size wr V → Pair W V g A c bs A2 c2 bs) := Lib.hid fun V hV => hP.below hV
    by_cases hlt : k < l.length
    · have hlk : (k : Int) < (l.length : Int) := by omega
      have hgk : (0 : Int) ≤ (k : Int) := by omega
      by_cases hlt30 : k < 30
      · have hlk30 : (k : Int) < 30 := by omega
        obtain ⟨b, o, rfl, hbw, hc⟩ := Sl.elem (m := 6) Dw.len (by decide) HS.out hlt
        obtain ⟨d, hd⟩ : ∃ d, l[k] = d := ⟨_, rfl⟩
        have hdo := HOK.out _ (List.getElem_mem hlt)
        rw [hd] at hc hdo
        have HG : Hid (∀ V, Below W w V → V.cell? ⟨b, o + k * 6, none⟩ = some (.int .i64 d.kind) ∧ V.cell? ⟨b, o + k * 6 + 1, none⟩ = some (.slice d.A d.l.length d.c) ∧ V.cell? ⟨b, o + k * 6 + 2, none⟩ = some (.string d.s)) := Lib.hid fun V hV => by
          have hbW : b < W := by rw [← HWe.out]; exact hbw
          have h0 := hc 0 _ rfl
          rw [Nat.add_zero] at h0
          exact ⟨(hV.cell (p := ⟨b, o + k * 6, none⟩) hbW).trans h0, (hV.cell (p := ⟨b, o + k * 6 + 1, none⟩) hbW).trans (hc 1 _ rfl), (hV.cell (p := ⟨b, o + k * 6 + 2, none⟩) hbW).trans (hc 2 _ rfl)⟩
        obtain ⟨L, hL⟩ : ∃ L, d.l.take 20 = L := ⟨_, rfl⟩
        have hL20 : L.length ≤ 20 := by rw [← hL]; simp; omega
        have hL6 : ∀ x ∈ L, In64p x := fun x hx => hdo.l6 x (by rw [← hL] at hx; exact List.mem_of_mem_take hx)
        have hslL : Sl w d.A (ints .i64 L) := by
          have := hdo.sl.take 20
          rw [← hL]
          simpa [ints, List.map_take] using this
        have HNM : Hid (∀ V, Below W w V → Calls Try.prog 8 #[.slice d.A d.l.length d.c] V fun e w' => e = .returned (.slice d.A L.length d.c) ∧ Below V.heap.size V w') := Lib.hid fun V hV => by
          rw [← hL]
          exact numbers_any d.A d.c d.l V hdo.lc hdo.cm (hdo.sl.below (by rw [HWe.out]; exact hV))
        have HSL : Hid (∀ V, Below W w V → Sl V d.A (ints .i64 L)) := Lib.hid fun V hV => hslL.below (by rw [HWe.out]; exact hV)
        have HAB : Hid (∀ b o, d.A = some ⟨b, o, none⟩ → L ≠ [] → b < W) := Lib.hid fun b o hA hne => by
          obtain ⟨b1, o1, e1, h1⟩ := hslL.int (j := 0) (List.length_pos_iff.2 hne)
          rw [hA] at e1
          injection e1 with e1
          injection e1 with e1 _
          subst e1
          have h3 : b < w.heap.size := World.block_lt_of_cell? _ _ h1
          have h4 := HWe.out
          omega
        have HSH := Lib.hid (fun V => short4_any d.s V hdo.sm)
        obtain ⟨t, ht⟩ : ∃ t, short3 d.s = t := ⟨_, rfl⟩
        have hts : t.size ≤ 300 := by rw [← ht]; exact short3_size _
        rw [ht] at HSH
        have hPL := packL_len hL6
        have hPT := packT_len (s := sb t) (by rw [sb_len]; omega)
        rw [sb_len] at hPT
        have HL6 := Lib.hid hL6
        clear hc hd hdo hL hslL ht hL6
        obtain ⟨kd, dA, dc, dl, ds, d4, d5, d6⟩ := d
        simp only at HG HNM HSL HAB HSH
        generalize dl.length = dln at *
        clear HOK HS hbw
        obtain ⟨y0, y1, y2⟩ := HG.out _ hB
        by_cases hkd : kd = 0
        · subst hkd
          go_wp2_with fail
          refine (HNM.out _ hB).mono ?_
          rintro e v1 ⟨rfl, hb⟩
          have hP1 := hP.below hb
          have hB1 := hB.trans (hb.mono hWs)
          have hWs1 : W ≤ v1.heap.size := by have := hb.size; omega
          clear hb
          have HI := Lib.hid (wint_any g A c bs dA dc L v1 hP1.s.wr (by omega) (by omega) HL6.out (HSL.out _ hB1) (fun b o hA hne => by
            have hlt := HAB.out b o hA hne
            exact ⟨by have := hP1.s.ge; omega, fun e => by have := hP1.s.row b e; omega⟩))
          go_wp2_with fail
          refine HI.out.mono ?_
          rintro e v2 ⟨rfl, A3, c3, hW3, hC3, hr3⟩
          obtain ⟨hP2, hb2⟩ := hP1.write hWs1 hW3 hC3 hr3
          have hB2 := hB1.trans hb2
          have hWs2 : W ≤ v2.heap.size := by have := hb2.size; omega
          clear HI hW3 hC3 hr3 hP1 hb2
          obtain ⟨z0, z1, z2⟩ := HG.out _ hB2
          go_wp2_with fail
          refine (HNM.out _ hB2).mono ?_
          rintro e v3 ⟨rfl, hb⟩
          have hP3 := hP2.below hb
          have hB3 := hB2.trans (hb.mono hWs2)
          have hWs3 : W ≤ v3.heap.size := by have := hb.size; omega
          clear hb hP2
          have HR := Lib.hid (rpints_any dA dc L v3 (by omega) HL6.out (HSL.out _ hB3))
          go_wp2_with fail
          refine HR.out.mono ?_
          rintro e v4 ⟨⟨A4, c4, rfl, own4⟩, hb⟩
          have hP3 := hP3.below hb
          have hB4 := hB3.trans (hb.mono hWs3)
          have hsz3 : W ≤ v4.heap.size := by have := hb.size; omega
          have hq := Sl.of_own own4
          clear hb own4 HR
          obtain ⟨Q, hQ⟩ : ∃ Q, packL L = Q := ⟨_, rfl⟩
          rw [hQ] at hPL hP3 hq ⊢
          clear hQ
          go_wp2_with (first
            | (at_builtin; refine wpList_app3 rfl (.tmp 31) (.tmp 38) rfl EU8 rfl rfl hP3.own (m := (Q).length) (by rw [by8_length, Nat.mul_one]) hq (by8_one _) (by unfold maxLen; omega) (by omega) hsz3 ?_; intro A5 c5 w5 own5 hg5 hv5 hb5)
            | fail)
          have hP4 := hP3.want (ws' := bs ++ Q) hg5 (by rw [List.length_append, by8_append]; exact own5) (by rw [List.length_append]; exact hv5)
          have hB5 := hB4.trans hb5
          go_roundw
          case rel => exact ⟨k + 1, _, _, bs ++ Q, A5, c5, by omega, by omega, rfl, by rw [List.length_append], by go_num, by rw [List.length_append]; omega, hP4, hB5⟩
          case measure => simp [intOf]; omega
        · have hkd2 : (kd == 0) = false := by simpa using hkd
          go_wp2_with fail
          refine (HSH.out _).mono ?_
          rintro e v1 ⟨rfl, hb⟩
          have hP1 := hP.below hb
          have hB1 := hB.trans (hb.mono hWs)
          have hWs1 : W ≤ v1.heap.size := by have := hb.size; omega
          clear hb
          have HI := Lib.hid (wtext_any g A c bs t v1 hP1.s.wr (by omega) (by omega))
          go_wp2_with fail
          refine HI.out.mono ?_
          rintro e v2 ⟨rfl, A3, c3, hW3, hC3, hr3⟩
          obtain ⟨hP2, hb2⟩ := hP1.write hWs1 hW3 hC3 hr3
          have hB2 := hB1.trans hb2
          have hWs2 : W ≤ v2.heap.size := by have := hb2.size; omega
          clear HI hW3 hC3 hr3 hP1 hb2
          obtain ⟨z0, z1, z2⟩ := HG.out _ hB2
          go_wp2_with fail
          refine (HSH.out _).mono ?_
          rintro e v3 ⟨rfl, hb⟩
          have hP3 := hP2.below hb
          have hB3 := hB2.trans (hb.mono hWs2)
          have hWs3 : W ≤ v3.heap.size := by have := hb.size; omega
          clear hb hP2
          have HR := Lib.hid (rptext_any t v3 (by omega))
          go_wp2_with fail
          refine HR.out.mono ?_
          rintro e v4 ⟨⟨A4, c4, rfl, own4⟩, hb⟩
          have hP3 := hP3.below hb
          have hB4 := hB3.trans (hb.mono hWs3)
          have hsz3 : W ≤ v4.heap.size := by have := hb.size; omega
          have hq := Sl.of_own own4
          clear hb own4 HR
          obtain ⟨Q, hQ⟩ : ∃ Q, packT (sb t) = Q := ⟨_, rfl⟩
          rw [hQ] at hPT hP3 hq ⊢
          clear hQ
          go_wp2_with (first
            | (at_builtin; refine wpList_app3 rfl (.tmp 48) (.tmp 55) rfl EU8 rfl rfl hP3.own (m := (Q).length) (by rw [by8_length, Nat.mul_one]) hq (by8_one _) (by unfold maxLen; omega) (by omega) hsz3 ?_; intro A5 c5 w5 own5 hg5 hv5 hb5)
            | fail)
          have hP4 := hP3.want (ws' := bs ++ Q) hg5 (by rw [List.length_append, by8_append]; exact own5) (by rw [List.length_append]; exact hv5)
          have hB5 := hB4.trans hb5
          go_roundw
          case rel => exact ⟨k + 1, _, _, bs ++ Q, A5, c5, by omega, by omega, rfl, by rw [List.length_append], by go_num, by rw [List.length_append]; omega, hP4, hB5⟩
          case measure => simp [intOf]; omega
      · have hlk30 : ¬ (k : Int) < 30 := by omega
        have HD := Lib.hid (wdone_any g A c bs wr hP.s.wr (by omega))
        go_wp2_with fail
        refine HD.out.mono ?_
        rintro e v1 ⟨⟨A3, c3, rfl, own3⟩, hb⟩
        have hP1 := HEND.out _ hb
        have hB1 := hB.trans (hb.mono hWs)
        have HQ := Lib.hid (same_any A3 A2 c3 c2 bs bs v1 (by unfold maxLen; omega) (by unfold maxLen; omega) (Sl.of_own own3) (Sl.of_own hP1.own))
        simp only [decide_true] at HQ
        have hWs1 : W ≤ v1.heap.size := by have := hb.size; omega
        clear HD hb own3 hP1
        go_wp2_with fail
        refine HQ.out.mono ?_
        rintro e v2 ⟨rfl, n6, hv2⟩
        have hb := below_drewN (Below.refl v1.heap.size v1) n6
        rw [← hv2] at hb
        have hB2 := hB1.trans (hb.mono hWs1)
        have hWs2 : W ≤ v2.heap.size := by have := hb.size; omega
        clear hv2 hb HQ
        go_wp2_with fail
        refine (HLV.out _).mono ?_
        rintro e v3 ⟨rfl, hb⟩
        have hB3 := hB2.trans (hb.mono hWs2)
        go_wp2_with fail
        go_ret
        exact ⟨rfl, hB3⟩
    · obtain rfl : k = l.length := by omega
      have hlk : ¬ (l.length : Int) < (l.length : Int) := by omega
      have HD := Lib.hid (wdone_any g A c bs wr hP.s.wr (by omega))
      go_wp2_with fail
      refine HD.out.mono ?_
      rintro e v1 ⟨⟨A3, c3, rfl, own3⟩, hb⟩
      have hP1 := HEND.out _ hb
      have hB1 := hB.trans (hb.mono hWs)
      have HQ := Lib.hid (same_any A3 A2 c3 c2 bs bs v1 (by unfold maxLen; omega) (by unfold maxLen; omega) (Sl.of_own own3) (Sl.of_own hP1.own))
      simp only [decide_true] at HQ
      have hWs1 : W ≤ v1.heap.size := by have := hb.size; omega
      clear HD hb own3 hP1
      go_wp2_with fail
      refine HQ.out.mono ?_
      rintro e v2 ⟨rfl, n6, hv2⟩
      have hb := below_drewN (Below.refl v1.heap.size v1) n6
      rw [← hv2] at hb
      have hB2 := hB1.trans (hb.mono hWs1)
      have hWs2 : W ≤ v2.heap.size := by have := hb.size; omega
      clear hv2 hb HQ
      go_wp2_with fail
      refine (HLV.out _).mono ?_
      rintro e v3 ⟨rfl, hb⟩
      have hB3 := hB2.trans (hb.mono hWs2)
      go_wp2_with fail
      go_ret
      exact ⟨rfl, hB3⟩
end Go.Proofs.Ytppfbabdglbdaaa
