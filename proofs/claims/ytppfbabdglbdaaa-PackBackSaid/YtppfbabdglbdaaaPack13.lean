/-
  Layer 4, thirteenth part: PackBack (laid by gen_pack13.py).
-/
import Derived.Test.YtppfbabdglbdaaaPack12
import Derived.Test.YtppfbabdglbdaaaCrcWalk
namespace Go.Proofs.Ytppfbabdglbdaaa
open Go.ChangeShapes Go.WideShapes Go.ChangeAt Go.RowKit
set_option linter.unusedVariables false
set_option linter.unusedSimpArgs false

theorem rc_by8 (l : List Nat) : rc (fun n : Nat => [Value.int .u8 (n : Int)]) l = by8 l := by
  unfold rc by8
  induction l with
  | nil => rfl
  | cons a l ih => simp only [List.map_cons, List.flatten_cons, ih]; rfl
theorem rd_byte {w : World} {r : List Value} (h : Go.Proofs.Ytppfbabdglbdaaa.Rd w (.int .u8) r) : ∃ n : Nat, r = [.int .u8 (n : Int)] ∧ n < 256 := by
  obtain ⟨n, rfl, hn⟩ := h
  have := bd_u8 hn
  exact ⟨n.toNat, by rw [show ((n.toNat : Nat) : Int) = n by omega], by omega⟩

set_option maxHeartbeats 4000000 in
set_option maxRecDepth 100000 in
theorem walk_PackBack (a0 : Option Addr) (n0 c0 : Nat) (a1 : ByteArray) (a2 : Option Addr) (n2 c2 : Nat) (w : World) (w0 : Go.Proofs.Ytppfbabdglbdaaa.Rd w (.sl (.int .i64)) [.slice a0 n0 c0]) (w1 : a1.size ≤ maxLen) (w2 : Go.Proofs.Ytppfbabdglbdaaa.Rd w (.sl (.int .u8)) [.slice a2 n2 c2]) :
    Calls Try.prog 4 #[.slice a0 n0 c0, .string a1, .slice a2 n2 c2] w fun e w' => e = .returned (.bool true) ∧ Below w.heap.size w w' := by
  obtain ⟨l, rfl, hsc, hscm, hS, hok⟩ := rd_rowsP (f := fun n : Int => [Value.int .i64 n]) (fun r => rd_int) w0
  rw [rc_int] at hS
  obtain ⟨l8, rfl, h8c, h8m, h8, h8o⟩ := rd_rowsP (f := fun n : Nat => [Value.int .u8 (n : Int)]) (fun r => rd_byte) w2
  rw [rc_by8] at h8
  have HNM := Lib.hid (numbers_any a0 c0 l w hsc hscm hS)
  have HSH := Lib.hid (fun V => short4_any a1 V w1)
  have HCT := Lib.hid (fun V => cut_any a2 l8.length c2 60 V (by unfold maxLen at h8m; omega) (by omega) h8c (by unfold maxLen at h8m; omega))
  obtain ⟨L, hL⟩ : ∃ L, l.take 20 = L := ⟨_, rfl⟩
  have hL20 : L.length ≤ 20 := by rw [← hL]; simp; omega
  have hL6 : ∀ x ∈ L, In64p x := fun x hx => hok x (by rw [← hL] at hx; exact List.mem_of_mem_take hx)
  have hsL : Sl w a0 (ints .i64 L) := by
    have := hS.take 20
    rw [← hL]
    simpa [ints, List.map_take] using this
  obtain ⟨B, hBe⟩ : ∃ B, l8.take 60 = B := ⟨_, rfl⟩
  have hB60 : B.length ≤ 60 := by rw [← hBe]; simp; omega
  have hBl : min l8.length 60 = B.length := by rw [← hBe]; simp; omega
  have hBo : Oct B := fun x hx => h8o x (by rw [← hBe] at hx; exact List.mem_of_mem_take hx)
  have hsB : Sl w a2 (by8 B) := by rw [← hBe, by8_take]; exact h8.take 60
  obtain ⟨t, ht⟩ : ∃ t, short3 a1 = t := ⟨_, rfl⟩
  have hts : t.size ≤ 300 := by rw [← ht]; exact short3_size _
  rw [hL] at HNM
  rw [ht] at HSH
  rw [hBl] at HCT
  have hAB : ∀ b o, a0 = some ⟨b, o, none⟩ → L ≠ [] → b < w.heap.size := fun b o hA hne => by
    obtain ⟨b1, o1, e1, h1⟩ := hsL.int (j := 0) (List.length_pos_iff.2 hne)
    rw [hA] at e1
    injection e1 with e1
    injection e1 with e1 _
    subst e1
    exact World.block_lt_of_cell? _ _ h1
  have HLV := Lib.hid (fun V => lives4_any V)
  have HL6 := Lib.hid hL6
  have HAB := Lib.hid hAB
  have hPL := packL_len hL6
  have hPT := packT_len (s := sb t) (by rw [sb_len]; omega)
  rw [sb_len] at hPT
  have hOP : Oct (packL L ++ packT (sb t)) := (show Oct (packL L) from packL_byte L).app (by
    rw [packT]
    exact (show Oct (packI _) from vb_byte _).app (sb_byte t))
  have HOP := Lib.hid hOP
  clear w0 w1 w2 hsc hscm hS hok h8c h8m h8 h8o hL ht hBe hBl hL6 hAB hOP
  obtain ⟨W, hWe⟩ : ∃ W, w.heap.size = W := ⟨_, rfl⟩
  have HSL : Hid (∀ V, Below W w V → Sl V a0 (ints .i64 L)) := Lib.hid fun V hV => hsL.below (by rw [hWe]; exact hV)
  have HSB : Hid (∀ V, Below W w V → Sl V a2 (by8 B)) := Lib.hid fun V hV => hsB.below (by rw [hWe]; exact hV)
  have HWe := Lib.hid hWe
  rw [hWe] at HNM HAB ⊢
  clear hsL hsB hWe
  generalize l.length = ln at *
  generalize l8.length = ln8 at *
  go_enter Try.func4, Try.ntmps4
  go_wp2_with fail
  refine HNM.out.mono ?_
  rintro e v1 ⟨rfl, hB1⟩
  have hW1 : W ≤ v1.heap.size := by have := hB1.size; have := HWe.out; omega
  clear HNM
  go_wp2_with fail
  refine (HSH.out _).mono ?_
  rintro e v2 ⟨rfl, hb⟩
  have hB2 := hB1.trans (hb.mono hW1)
  have hW2 : W ≤ v2.heap.size := by have := hb.size; omega
  clear hb hB1 hW1 HSH
  go_wp2_with fail
  refine (HCT.out _).mono ?_
  rintro e v3 ⟨rfl, rfl⟩
  clear HCT
  have HN := Lib.hid (wnew_S v2)
  go_wp2_with fail
  refine HN.out.mono ?_
  rintro e v4 ⟨g, rfl, hS4, hb⟩
  have hB4 := hB2.trans (hb.mono hW2)
  have hW4 : W ≤ v4.heap.size := by have := hb.size; omega
  have hS4 : WrS W v4 g none 0 [] := ⟨hS4.wr, by have := hS4.ge; omega, fun b hb => by have := hS4.row b hb; omega⟩
  clear hb HN hB2 hW2
  have HI := Lib.hid (wint_S W g none 0 [] a0 c0 L v4 hS4 hW4 (by omega) (by decide) HL6.out (HSL.out _ hB4) (fun b o hA hne => .inl (HAB.out b o hA hne)))
  go_wp2_with fail
  refine HI.out.mono ?_
  rintro e v5 ⟨rfl, hb, A5, c5, hS5⟩
  have hB5 := hB4.trans hb
  have hW5 : W ≤ v5.heap.size := by have := hb.size; omega
  rw [List.nil_append] at hS5
  clear HI hb hB4 hW4 hS4
  have HT := Lib.hid (wtext_S W g A5 c5 _ t v5 hS5 hW5 (by omega) (by omega))
  go_wp2_with fail
  refine HT.out.mono ?_
  rintro e v6 ⟨rfl, hb, A6, c6, hS6⟩
  have hB6 := hB5.trans hb
  have hW6 : W ≤ v6.heap.size := by have := hb.size; omega
  clear HT hb hB5 hW5 hS5
  have HD := Lib.hid (wdone_any g A6 c6 _ v6 hS6.wr (by rw [List.length_append]; omega))
  go_wp2_with fail
  refine HD.out.mono ?_
  rintro e v7 ⟨⟨A7, c7, rfl, own7⟩, hb⟩
  have hB7 := hB6.trans (hb.mono hW6)
  have hW7 : W ≤ v7.heap.size := by have := hb.size; omega
  have s7 := Sl.of_own own7
  clear HD hb hB6 hW6 hS6 own7
  have hO := ropen_any A7 c7 _ v7 (by rw [List.length_append]; omega) HOP.out s7
  rw [List.length_append] at hO
  have HO := Lib.hid hO
  clear hO
  go_wp2_with fail
  refine HO.out.mono ?_
  rintro e v8 ⟨r, rfl, hr, hb, A8, c8, hR8⟩
  have hB8 := hB7.trans (hb.mono hW7)
  have hWr : W ≤ r := by omega
  clear HO hb hB7 s7 hr
  go_wp2_with fail
  go_loopw [8] (fun iv wr => ∃ (k : Nat) (A : Option Addr) (c : Nat), k ≤ L.length ∧ iv = .int .i64 k ∧ Rdr wr r A c (packL (L.drop k) ++ packT (sb t)) 0 ∧ Below W w wr) (fun iv _ => L.length - (intOf iv).toNat)
  case atStart => exact ⟨0, A8, c8, by omega, rfl, hR8, hB8⟩
  case round =>
    obtain ⟨k, A, c, hk, rfl, hR, hB⟩ := hrel
    clear hR8 hB8 hW7
    have hWs : W ≤ wr.heap.size := by have := hB.size; have := HWe.out; omega
    by_cases hlt : k < L.length
    · have hlk : (k : Int) < (L.length : Int) := by omega
      have hgk : (0 : Int) ≤ (k : Int) := by omega
      obtain ⟨b, o, rfl, hc⟩ := (HSL.out _ hB).int hlt
      have hne : L ≠ [] := fun e => by subst e; simp at hlt
      have hbW := HAB.out b o rfl hne
      have hx6 := HL6.out _ (List.getElem_mem hlt)
      obtain ⟨x, hx⟩ : ∃ x, L[k] = x := ⟨_, rfl⟩
      have hdr : packL (L.drop k) = packI x ++ packL (L.drop (k + 1)) := by
        rw [List.drop_eq_getElem_cons hlt, packL_cons, hx]
      rw [hx] at hc hx6
      have hxx : (x == x) = true := by simp
      rw [hdr, List.append_assoc] at hR
      have hrd := rdI_pack (lo := (-9223372036854775808)) (hi := 9223372036854775807) hx6 (by unfold In64p at hx6; omega) (by unfold In64p at hx6; omega) (packL (L.drop (k + 1)) ++ packT (sb t))
      have hR0 := hR.below ((Below.refl _ _).drew)
      have HRI := Lib.hid (rint_S W r A c _ 0 (-9223372036854775808) 9223372036854775807 wr.drew hR0 hWr (by rw [World.size_drew]; exact hWs) hrd)
      have HG : Hid (∀ V, Below W wr V → V.cell? ⟨b, o + k, none⟩ = some (.int .i64 x)) := Lib.hid fun V hV => (hV.cell (p := ⟨b, o + k, none⟩) hbW).trans hc
      have hBd : Below W wr wr.drew := ((Below.refl _ _).drew).mono hWs
      clear hR hR0 hrd hdr hx hx6 hc
      go_wp2_with fail
      refine wp_region_held_drew (S := (fun V => Below W wr V)) (by kernel_rfl) (by exact hBd) (fun hHeld => ?_)
      refine wpAnyH_take (i := 0) (oi := { dst := some 31, op := _, type := _, pos := _, after := _, guard := _ }) (v := ?_) rfl (by kernel_rfl) (by kernel_rfl) (by kernel_rfl) (fun _ _ _ h => h) (Or.inl ⟨by rfl, ?_⟩) hHeld ?_
      rotate_left
      · (intro w hSw; have g0 := HG.out _ hSw; go_simp <;> with_reducible rfl)
      try simp only [Act.put, List.setIfInBounds_toArray, List.set_cons_zero, List.set_cons_succ]
      refine wpAnyH_take (i := 2) (oi := { dst := some 33, op := _, type := _, pos := _, after := _, guard := _ }) (v := ?_) rfl (by kernel_rfl) (by kernel_rfl) (by kernel_rfl) (fun _ _ _ h => h) (Or.inl ⟨by rfl, ?_⟩) hHeld ?_
      rotate_left
      · (intro w hSw; have g0 := HG.out _ hSw; go_simp <;> with_reducible rfl)
      try simp only [Act.put, List.setIfInBounds_toArray, List.set_cons_zero, List.set_cons_succ]
      refine wpAnyH_take (i := 3) (oi := { dst := some 34, op := _, type := _, pos := _, after := _, guard := _ }) (v := ?_) rfl (by kernel_rfl) (by kernel_rfl) (by kernel_rfl) (fun _ _ _ h => h) (Or.inl ⟨by rfl, ?_⟩) hHeld ?_
      rotate_left
      · (intro w hSw; have g0 := HG.out _ hSw; go_simp <;> with_reducible rfl)
      try simp only [Act.put, List.setIfInBounds_toArray, List.set_cons_zero, List.set_cons_succ]
      refine wpAnyH_take (i := 4) (oi := { dst := some 35, op := _, type := _, pos := _, after := _, guard := _ }) (v := ?_) rfl (by kernel_rfl) (by kernel_rfl) (by kernel_rfl) (fun _ _ _ h => h) (Or.inl ⟨by rfl, ?_⟩) hHeld ?_
      rotate_left
      · (intro w hSw; have g0 := HG.out _ hSw; go_simp <;> with_reducible rfl)
      try simp only [Act.put, List.setIfInBounds_toArray, List.set_cons_zero, List.set_cons_succ]
      refine wpAnyH_take (i := 5) (oi := { dst := some 36, op := _, type := _, pos := _, after := _, guard := _ }) (v := ?_) rfl (by kernel_rfl) (by kernel_rfl) (by kernel_rfl) (fun _ _ _ h => h) (Or.inl ⟨by rfl, ?_⟩) hHeld ?_
      rotate_left
      · (intro w hSw; have g0 := HG.out _ hSw; go_simp <;> with_reducible rfl)
      try simp only [Act.put, List.setIfInBounds_toArray, List.set_cons_zero, List.set_cons_succ]
      refine wpAnyH_ready (rs := [1]) (by kernel_rfl) (by simp) ?_
      refine AllReadyH.cons (o := { dst := some 32, op := _, type := _, pos := _, after := _, guard := _ }) rfl (fun K hK => ?_) AllReadyH.nil
      go_simp
      refine HRI.out.mono ?_
      rintro e u1 ⟨rfl, hk1, A9, c9, hR9⟩
      have hKeep : Below W wr u1 := hHeld.trans hk1
      go_wp2_with fail
      refine hK.out _ _ (by (try dsimp only); exact hKeep) (fun hHeld => ?_)
      clear hK K hKeep
      try simp only [Act.put, List.setIfInBounds_toArray, List.set_cons_zero, List.set_cons_succ]
      refine wpAnyH_take (i := 6) (oi := { dst := some 37, op := _, type := _, pos := _, after := _, guard := _ }) (v := ?_) rfl (by kernel_rfl) (by kernel_rfl) (by kernel_rfl) (fun _ _ _ h => h) (Or.inl ⟨by rfl, ?_⟩) hHeld ?_
      rotate_left
      · (intro w hSw; have g0 := HG.out _ hSw; go_simp <;> with_reducible rfl)
      try simp only [Act.put, List.setIfInBounds_toArray, List.set_cons_zero, List.set_cons_succ]
      refine wpAnyH_done (by kernel_rfl) ?_ _
      have hB2 := hB.trans hHeld
      clear hBd HRI
      go_wp2_with fail
      go_roundw
      case rel => exact ⟨k + 1, A9, c9, by omega, by go_num, hR9, hB2⟩
      case measure => simp [intOf]; omega
    · obtain rfl : k = L.length := by omega
      have hlk : ¬ (L.length : Int) < (L.length : Int) := by omega
      have hR1 : Rdr wr r A c (packT (sb t) ++ []) 0 := by
        rw [List.drop_length] at hR
        rw [List.append_nil]
        exact hR
      clear hR
      have HRT := Lib.hid (rtext_S W r A c _ 0 300 wr hR1 hWr hWs (rdT_pack (s := sb t) (r := []) (most := 300) (by rw [sb_len]; omega) (by rw [sb_len]; omega)) (bs8_sb t))
      go_wp2_with fail
      refine HRT.out.mono ?_
      rintro e v9 ⟨rfl, hb, A9, c9, hR9⟩
      have hB9 := hB.trans hb
      have hW9 : W ≤ v9.heap.size := by have := hb.size; omega
      clear HRT hb hB hR1 hWs
      have HE := Lib.hid (rend_any r A9 c9 _ 0 v9 hR9)
      rw [show endF ⟨[], 0⟩ = 0 by decide] at HE
      go_wp2_with fail
      refine HE.out.mono ?_
      rintro e v10 ⟨rfl, hb⟩
      have hB10 := hB9.trans (hb.mono hW9)
      have hW10 : W ≤ v10.heap.size := by have := hb.size; omega
      clear HE hb hB9 hW9 hR9
      have HO := Lib.hid (ropen_any a2 c2 B v10 (by omega) hBo (HSB.out _ hB10))
      go_wp2_with fail
      refine HO.out.mono ?_
      rintro e v11 ⟨q, rfl, hq, hb, A11, c11, hR11⟩
      have hB11 := hB10.trans (hb.mono hW10)
      have hW11 : W ≤ v11.heap.size := by have := hb.size; omega
      have hWq : W ≤ q := by omega
      clear HO hb hB10 hW10 hq
      have HN := Lib.hid (wnew_S v11)
      have hql := hR11.lt
      obtain ⟨Z, hZ⟩ : ∃ Z, v11.heap.size = Z := ⟨_, rfl⟩
      rw [hZ] at HN hW11 hql
      clear hZ
      go_wp2_with fail
      refine HN.out.mono ?_
      rintro e v12 ⟨g2, rfl, hS12, hb⟩
      have hR12 := hR11.belowW hb hql
      have hB12 := hB11.trans (hb.mono hW11)
      have hz12 := hS12.wr.lt
      have hg12 := hS12.ge
      clear HN hB11 hR11 hb
      go_wp2_with fail
      go_loopw [9, 10] (fun pv iv wr => ∃ (k : Nat) (A : Option Addr) (c : Nat) (Bi : List Nat) (ei : Int) (A' : Option Addr) (c' : Nat) (ws : List Nat), k ≤ 60 ∧ pv = .pointer (some ⟨g2, 0, none⟩) ∧ iv = .int .i64 k ∧ Rdr wr q A c Bi ei ∧ WrS Z wr g2 A' c' ws ∧ Below W w wr ∧ Z ≤ wr.heap.size ∧ ws.length ≤ 1000 ∧ (ei = 0 → ws ++ Bi = B ∧ Bi.length + k ≤ 60) ∧ (ei ≠ 0 → Bi = [])) (fun _ iv _ => 60 - (intOf iv).toNat)
      case atStart => exact ⟨0, A11, c11, B, 0, none, 0, [], by omega, rfl, rfl, hR12, hS12, hB12, by omega, by simp, fun _ => ⟨rfl, by omega⟩, fun h => absurd rfl h⟩
      case round =>
        obtain ⟨k, A, c, Bi, ei, A', c', ws, hk, rfl, rfl, hR, hS, hB, hZs, hwl, he0, he1⟩ := hrel
        clear hS12 hR12 hB12 hz12 hg12
        have hWs : W ≤ wr.heap.size := by omega
        have HE0 := Lib.hid he0
        have HE1 := Lib.hid he1
        clear he0 he1
        have HLF := Lib.hid (rleft4_any q A c Bi ei wr hR)
        have HBL : Hid (∀ V, Below wr.heap.size wr V → Rdr V q A c Bi ei ∧ WrS Z V g2 A' c' ws) := Lib.hid fun V hV => ⟨hR.below hV, hS.below hV⟩
        by_cases hk60 : k < 60
        · have hlk60 : (k : Int) < 60 := by omega
          by_cases hBn : Bi = []
          · have hlen0 : ¬ (0 : Int) < (Bi.length : Int) := by rw [hBn]; simp
            go_wp2_with fail
            refine HLF.out.mono ?_
            rintro e x1 ⟨rfl, hb⟩
            obtain ⟨hRX, hSX⟩ := HBL.out _ hb
            have hBX := hB.trans (hb.mono hWs)
            have hWX : W ≤ x1.heap.size := by have := hb.size; omega
            clear hb HLF HBL
            generalize hln : Bi.length = ln5 at *
            have hen : ei = 0 → Bi = [] := fun h => by
              exact hBn
            have HX := Lib.hid (rend_any q A c Bi ei _ hRX)
            by_cases hei : ei = 0
            · have hBi := hen hei
              have hws : ws = B := by
                have := (HE0.out hei).1
                rw [hBi, List.append_nil] at this
                exact this
              subst hei
              subst hBi
              subst hws
              rw [show endF ⟨[], 0⟩ = 0 by decide] at HX
              go_wp2_with fail
              refine HX.out.mono ?_
              rintro e y1 ⟨rfl, hb⟩
              have hB1 := hBX.trans (hb.mono hWX)
              have hW1 : W ≤ y1.heap.size := by have := hb.size; omega
              have hS1 := hSX.below hb
              clear HX hb
              have HD := Lib.hid (wdone_any g2 A' c' ws y1 hS1.wr (by omega))
              go_wp2_with fail
              refine HD.out.mono ?_
              rintro e y2 ⟨⟨A3, c3, rfl, own3⟩, hb⟩
              have hB2 := hB1.trans (hb.mono hW1)
              have hW2 : W ≤ y2.heap.size := by have := hb.size; omega
              have HQ := Lib.hid (same_any A3 a2 c3 c2 ws ws y2 (by unfold maxLen; omega) (by unfold maxLen; omega) (Sl.of_own own3) (HSB.out _ hB2))
              simp only [decide_true] at HQ
              clear HD hb own3 hB1 hW1
              go_wp2_with fail
              refine HQ.out.mono ?_
              rintro e y3 ⟨rfl, n6, hv3⟩
              have hb := below_drewN (Below.refl y2.heap.size y2) n6
              rw [← hv3] at hb
              have hB3 := hB2.trans (hb.mono hW2)
              have hW3 : W ≤ y3.heap.size := by have := hb.size; omega
              clear hv3 hb HQ
              go_wp2_with fail
              refine (HLV.out _).mono ?_
              rintro e y4 ⟨rfl, hb⟩
              have hB4 := hB3.trans (hb.mono hW3)
              go_wp2_with fail
              go_ret
              exact ⟨rfl, hB4⟩
            · have hef : endF ⟨Bi, ei⟩ = ei := by unfold endF; simp only; rw [if_pos hei]
              rw [hef] at HX
              have hge1 : (ei == 0) = false := by simpa using hei
              have hge2 : (ei != 0) = true := by simpa using hei
              go_wp2_with fail
              refine HX.out.mono ?_
              rintro e y1 ⟨rfl, hb⟩
              have hB1 := hBX.trans (hb.mono hWX)
              have hW1 : W ≤ y1.heap.size := by have := hb.size; omega
              clear HX hb
              go_wp2_with fail
              refine (HLV.out _).mono ?_
              rintro e y4 ⟨rfl, hb⟩
              have hB4 := hB1.trans (hb.mono hW1)
              go_wp2_with fail
              go_ret
              exact ⟨rfl, hB4⟩
          · have hei : ei = 0 := by
              by_cases h : ei = 0
              · exact h
              · exact absurd (HE1.out h) hBn
            subst hei
            obtain ⟨hwsB, hBk⟩ := HE0.out rfl
            have hlen1 : (0 : Int) < (Bi.length : Int) := by have := List.length_pos_iff.2 hBn; omega
            go_wp2_with fail
            refine HLF.out.mono ?_
            rintro e x1 ⟨rfl, hb⟩
            obtain ⟨hRX, hSX⟩ := HBL.out _ hb
            have hBX := hB.trans (hb.mono hWs)
            have hWX : W ≤ x1.heap.size := by have := hb.size; omega
            have hZX : Z ≤ x1.heap.size := by have := hb.size; omega
            have hOB := hR.oct
            clear hb HLF HBL hR hS hB
            have HI := Lib.hid (rint4_any q A c Bi 0 (-9223372036854775808) 9223372036854775807 x1 hRX)
            have her := rdI_err (lo := (-9223372036854775808)) (hi := 9223372036854775807) (s := ⟨Bi, 0⟩)
            obtain ⟨n, s', hn⟩ : ∃ n s', rdI (-9223372036854775808) 9223372036854775807 ⟨Bi, 0⟩ = (n, s') := ⟨_, _, rfl⟩
            rw [hn] at HI her
            have hbk := fun h1 => rdI_back (lo := (-9223372036854775808)) (hi := 9223372036854775807) (s := ⟨Bi, 0⟩) hOB hn h1 rfl
            have her := fun h1 => her h1 rfl
            obtain ⟨Bj, ej⟩ := s'
            simp only at HI hbk her
            have HBK := Lib.hid hbk
            have HER := Lib.hid her
            clear hbk her hn
            go_wp2_with fail
            refine HI.out.mono ?_
            rintro e x2 ⟨rfl, hC2, A2, c2', hR2⟩
            have hS2 := hSX.chg hC2 hql
            have hbb : Below W x1 x2 := hC2.below hWX hWq (fun b hb => by cases hb)
            have hB2 := hBX.trans hbb
            have hW2 : W ≤ x2.heap.size := by have := hbb.size; omega
            have hZ2 : Z ≤ x2.heap.size := by have := hbb.size; omega
            clear HI hC2 hbb hRX hSX hBX hWX hZX
            have HX := Lib.hid (rerr_any q A2 c2' Bj ej x2 hR2)
            go_wp2_with fail
            refine HX.out.mono ?_
            rintro e x3 ⟨rfl, hb⟩
            have hR3 := hR2.below hb
            have hS3 := hS2.below hb
            have hB3 := hB2.trans (hb.mono hW2)
            have hW3 : W ≤ x3.heap.size := by have := hb.size; omega
            have hZ3 : Z ≤ x3.heap.size := by have := hb.size; omega
            clear HX hb hR2 hS2 hB2 hW2 hZ2
            by_cases hej : ej = 0
            · subst hej
              obtain ⟨hBi, hn6, hls⟩ := HBK.out rfl
              try simp only at hBi hls
              have hb4 := (Below.refl _ x3).alloc (Nat.le_refl _) (.cells #[.int .i64 n] 2)
              have HI := Lib.hid (wint_S Z g2 A' c' ws (some ⟨x3.heap.size, 0, none⟩) 1 [n] (x3.alloc (.cells #[.int .i64 n] 2)) (hS3.below hb4) (by rw [World.size_alloc]; omega) (by simp) (by omega) (by intro x hx; simp only [List.mem_singleton] at hx; subst hx; exact hn6) (Sl.new_ x3 (ints .i64 [n]) 2)
                (fun b o hA _ => .inr (by
                  injection hA with hA
                  injection hA with hA _
                  subst hA
                  exact ⟨by have := hS3.wr.lt; omega, own_newB hS3.wr.own (Nat.le_refl _)⟩)))
              have hpn : packL [n] = packI n := by simp [packL]
              rw [hpn] at HI
              have hil : (packI n).length ≤ 10 := vb_len10 (zz_lt hn6)
              have hws2 : ws.length + Bi.length ≤ 60 := by
                have := congrArg List.length hwsB
                rw [List.length_append] at this
                omega
              have hR4 := hR3.below hb4
              have hB4 := hB3.trans (hb4.mono hW3)
              have hq3 : Z ≤ (x3.alloc (.cells #[.int .i64 n] 2)).heap.size := by rw [World.size_alloc]; omega
              clear hb4
              go_wp2_with fail
              refine HI.out.mono ?_
              rintro e x4 ⟨rfl, hb, A4, c4, hS4⟩
              have hR5 := hR4.belowW hb hql
              have hB5 := hB4.trans (hb.mono hW11)
              have hZ5 : Z ≤ x4.heap.size := by have := hb.size; omega
              go_wp2_with fail
              go_roundw
              case rel => exact ⟨k + 1, A2, c2', Bj, 0, A4, c4, ws ++ packI n, by omega, rfl, by go_num, hR5, hS4, hB5, hZ5, by rw [List.length_append]; omega, fun _ => ⟨by rw [← hwsB, hBi, List.append_assoc], by omega⟩, fun h => absurd rfl h⟩
              case measure => simp [intOf]; omega
            · have hge1 : (ej == 0) = false := by simpa using hej
              have hge2 : (ej != 0) = true := by simpa using hej
              have hBj := HER.out hej
              go_wp2_with fail
              go_roundw
              case rel => exact ⟨k + 1, A2, c2', Bj, ej, A', c', ws, by omega, rfl, by go_num, hR3, hS3, hB3, hZ3, hwl, fun h => absurd h hej, fun _ => hBj⟩
              case measure => simp [intOf]; omega
        · obtain rfl : k = 60 := by omega
          have hRX := hR
          have hSX := hS
          have hBX := hB
          have hWX := hWs
          have hen : ei = 0 → Bi = [] := fun h => by
            have := (HE0.out h).2
            exact List.eq_nil_of_length_eq_zero (by omega)
          have HX := Lib.hid (rend_any q A c Bi ei _ hRX)
          by_cases hei : ei = 0
          · have hBi := hen hei
            have hws : ws = B := by
              have := (HE0.out hei).1
              rw [hBi, List.append_nil] at this
              exact this
            subst hei
            subst hBi
            subst hws
            rw [show endF ⟨[], 0⟩ = 0 by decide] at HX
            go_wp2_with fail
            refine HX.out.mono ?_
            rintro e y1 ⟨rfl, hb⟩
            have hB1 := hBX.trans (hb.mono hWX)
            have hW1 : W ≤ y1.heap.size := by have := hb.size; omega
            have hS1 := hSX.below hb
            clear HX hb
            have HD := Lib.hid (wdone_any g2 A' c' ws y1 hS1.wr (by omega))
            go_wp2_with fail
            refine HD.out.mono ?_
            rintro e y2 ⟨⟨A3, c3, rfl, own3⟩, hb⟩
            have hB2 := hB1.trans (hb.mono hW1)
            have hW2 : W ≤ y2.heap.size := by have := hb.size; omega
            have HQ := Lib.hid (same_any A3 a2 c3 c2 ws ws y2 (by unfold maxLen; omega) (by unfold maxLen; omega) (Sl.of_own own3) (HSB.out _ hB2))
            simp only [decide_true] at HQ
            clear HD hb own3 hB1 hW1
            go_wp2_with fail
            refine HQ.out.mono ?_
            rintro e y3 ⟨rfl, n6, hv3⟩
            have hb := below_drewN (Below.refl y2.heap.size y2) n6
            rw [← hv3] at hb
            have hB3 := hB2.trans (hb.mono hW2)
            have hW3 : W ≤ y3.heap.size := by have := hb.size; omega
            clear hv3 hb HQ
            go_wp2_with fail
            refine (HLV.out _).mono ?_
            rintro e y4 ⟨rfl, hb⟩
            have hB4 := hB3.trans (hb.mono hW3)
            go_wp2_with fail
            go_ret
            exact ⟨rfl, hB4⟩
          · have hef : endF ⟨Bi, ei⟩ = ei := by unfold endF; simp only; rw [if_pos hei]
            rw [hef] at HX
            have hge1 : (ei == 0) = false := by simpa using hei
            have hge2 : (ei != 0) = true := by simpa using hei
            go_wp2_with fail
            refine HX.out.mono ?_
            rintro e y1 ⟨rfl, hb⟩
            have hB1 := hBX.trans (hb.mono hWX)
            have hW1 : W ≤ y1.heap.size := by have := hb.size; omega
            clear HX hb
            go_wp2_with fail
            refine (HLV.out _).mono ?_
            rintro e y4 ⟨rfl, hb⟩
            have hB4 := hB1.trans (hb.mono hW1)
            go_wp2_with fail
            go_ret
            exact ⟨rfl, hB4⟩
end Go.Proofs.Ytppfbabdglbdaaa
