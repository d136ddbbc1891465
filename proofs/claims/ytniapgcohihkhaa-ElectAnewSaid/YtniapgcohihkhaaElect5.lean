/-
  Layer 16, fifth part: the document's set; Elect, Agree of both sides (laid by gen_elect5.py).
-/
import Derived.Test.YtniapgcohihkhaaElect4
namespace Go.Proofs.Ytniapgcohihkhaa
open Go.ChangeShapes Go.WideShapes Go.ChangeAt Go.RowKit
set_option linter.unusedVariables false
set_option linter.unusedSimpArgs false

theorem Sl.drop0 {w : World} {g n : Nat} {xs : List Value} (h : Sl w (some ⟨g, 0, none⟩) xs) : Sl w (some ⟨g, n, none⟩) (xs.drop n) := by
  intro hne
  obtain ⟨b, o, e, hc⟩ := h (by rintro rfl; simp at hne)
  injection e with e
  injection e with e1 e2 e3
  subst e1; subst e2
  refine ⟨g, n, rfl, fun j u hu => ?_⟩
  rw [List.getElem?_drop] at hu
  have := hc _ _ hu
  rwa [Nat.zero_add] at this
theorem findIdx_of {α : Type} {p : α → Bool} {l : List α} {k : Nat} (hk : k ≤ l.length) (h : ∀ j, (hj : j < l.length) → j < k → p l[j] = false) (he : ∀ hj : k < l.length, p l[k] = true) : l.findIdx p = k := by
  rcases Nat.lt_or_ge k l.length with h1 | h1
  · rw [List.findIdx_eq h1]
    exact ⟨he h1, fun j hj => h j (by omega) hj⟩
  · have e : k = l.length := by omega
    rw [e, List.findIdx_eq_length]
    intro x hx
    obtain ⟨j, hj, rfl⟩ := List.getElem_of_mem hx
    exact h j hj (by omega)

set_option maxHeartbeats 4000000 in
set_option maxRecDepth 100000 in
theorem rset_any (A : Option Addr) (cap : Nat) (l : List Ch) (x : Ch) (w : World) (hl : l.length ≤ 900000) (hs : Sl w A (rc Ch.cells l)) :
    Calls Try.prog 53 #[.slice A l.length cap, x.val] w fun e w' => OwnC w.heap.size w' e (setL l x) ∧ Below w.heap.size w w' := by
  have hB0 := since_alloc (Below.refl _ w) (.cells x.cells.toArray 54)
  have hx0 := Ch.Bx.new w x
  have HDR := Lib.hid (rdrop_any A cap l x.fa x.fc (w.alloc (.cells x.cells.toArray 54)) (by omega) (hs.alloc _))
  have HLN := Lib.hid (Nat.le_trans (dropC_len l x.fa x.fc) hl)
  unfold Ch.val
  go_enter Try.func53, Try.ntmps53
  go_wp2_with fail
  refine HDR.out.mono ?_
  rintro e W1 ⟨⟨A1, c1, rfl, hown⟩, hb1⟩
  have hx1 := hx0.below hb1
  have hB1 := since_step hB0 hb1
  clear hb1 hx0 HDR hs
  have hSL : setL l x = (dropC l x.fa x.fc).take ((dropC l x.fa x.fc).findIdx fun y => !ahC y x) ++ x :: (dropC l x.fa x.fc).drop ((dropC l x.fa x.fc).findIdx fun y => !ahC y x) := rfl
  have HSL := Lib.hid hSL
  clear hSL
  have hrl : (dropC l x.fa x.fc).length ≤ 900000 := HLN.out
  generalize dropC l x.fa x.fc = r at *
  have HPL : Hid (∀ k, k ≤ r.length → (∀ j, (hj : j < r.length) → j < k → ahC r[j] x = true) → (∀ hj : k < r.length, ahC r[k] x = false) → setL l x = r.take k ++ x :: r.drop k) := Lib.hid fun k hk h1 h2 => by
    rw [HSL.out, findIdx_of hk (fun j hj hjk => by rw [h1 j hj hjk]; rfl) (fun hj => by rw [h2 hj]; rfl)]
  go_wp2_with fail
  go_loopw [7] (fun i wr => ∃ k : Nat, k ≤ r.length ∧ i = .int .i64 k ∧ (∀ j, (hj : j < r.length) → j < k → ahC r[j] x = true) ∧ Below W1.heap.size W1 wr) (fun i _ => r.length - (intOf i).toNat)
  case atStart => exact ⟨0, by omega, rfl, fun j hj h => absurd h (by omega), Below.refl _ _⟩
  case round =>
    obtain ⟨k, hk, rfl, hno, hB⟩ := hrel
    have hB2 : Below w.heap.size w wr := since_step hB1 hB
    have HXB : Hid (∀ V, Below wr.heap.size wr V → Ch.Bx V w.heap.size x) := Lib.hid fun V hV => (hx1.below hB).below hV
    have HO : Hid (∀ V, Below wr.heap.size wr V → V.ownsRow (w.heap.size + 1) 54 5 (.slice A1 r.length c1) r.length (rc Ch.cells r)) := Lib.hid fun V hV => own_below (own_below (by simpa using hown) hB) hV
    have hxl : w.heap.size < wr.heap.size := (HXB.out wr (Below.refl _ _)).lt
    by_cases hlt : k < r.length
    · obtain ⟨q, hq⟩ : ∃ q, ahC r[k] x = q := ⟨_, rfl⟩
      obtain ⟨b, o, rfl, hbw, hg⟩ := (Sl.of_own hown).ch hlt
      have hbr : b < wr.heap.size := Nat.lt_of_lt_of_le hbw hB.size
      have HK1 : Hid (∀ V, Below wr.heap.size wr V → r[k].at V b (o + k * 5)) := Lib.hid fun V hV =>
        Ch.at_keep hg fun i => (hV.cell (p := ⟨b, i, none⟩) hbr).trans (hB.cell (p := ⟨b, i, none⟩) hbw)
      have HQ : Hid (ltU r[k].fa r[k].fc x.fa x.fc = q) := Lib.hid hq
      have HN : Hid (q = true → ∀ j, (hj : j < r.length) → j < k + 1 → ahC r[j] x = true) := Lib.hid fun hqt j hj hjk => by
        rcases Nat.lt_or_ge j k with h | h
        · exact hno j hj h
        · obtain rfl : j = k := by omega
          rw [hq, hqt]
      have HE : Hid (q = false → setL l x = r.take k ++ x :: r.drop k) := Lib.hid fun hqf => HPL.out k hk hno (fun _ => by rw [hq, hqf])
      have hlk : (k : Int) < (r.length : Int) := by omega
      have hO0 := HO.out wr (Below.refl _ _)
      have hc1 : r.length ≤ c1 ∧ c1 ≤ maxLen := by
        rcases hO0.2 with ⟨h0, h1⟩ | ⟨g', cap', cur', h0, _, _, h3, h4, _⟩
        · omega
        · injection h0 with e1 e2 e3
          subst e3
          exact ⟨h3, h4⟩
      have hoz : o = 0 := by
        rcases hO0.2 with ⟨h0, h1⟩ | ⟨g', cap', cur', h0, _⟩
        · omega
        · injection h0 with e1 e2 e3
          injection e1 with e1
          injection e1
      subst hoz
      unfold maxLen at hc1
      obtain ⟨hc1, hcm⟩ := hc1
      clear hno hown hx1 hg hbw hq hO0
      generalize r[k] = v at HK1 HQ
      obtain ⟨fa, fc, ta, tc, con⟩ := v
      unfold Ch.at at HK1
      simp only at HK1 HQ
      simp only [Nat.zero_add] at HK1
      go_wp2_with fail
      refine wp_region_held_drew (S := (fun V => Below wr.heap.size wr V)) (by kernel_rfl) (by exact (Below.refl _ _).drew) (fun hHeld => ?_)
      refine wpAnyH_take (i := 0) (oi := { dst := some 12, op := _, type := _, pos := _, after := _, guard := _ }) (v := ?_) rfl (by kernel_rfl) (by kernel_rfl) (by kernel_rfl) (fun _ _ _ h => h) (Or.inl ⟨by rfl, ?_⟩) hHeld ?_
      rotate_left
      · (intro w hSw; obtain ⟨g0, g1, g2, g3, g4⟩ := HK1.out _ hSw; obtain ⟨x0, x1, x2, x3, x4⟩ := (HXB.out _ hSw).got; go_simp <;> with_reducible rfl)
      try simp only [Act.put, List.setIfInBounds_toArray, List.set_cons_zero, List.set_cons_succ]
      refine wpAnyH_take (i := 1) (oi := { dst := some 13, op := _, type := _, pos := _, after := _, guard := _ }) (v := ?_) rfl (by kernel_rfl) (by kernel_rfl) (by kernel_rfl) (fun _ _ _ h => h) (Or.inl ⟨by rfl, ?_⟩) hHeld ?_
      rotate_left
      · (intro w hSw; obtain ⟨g0, g1, g2, g3, g4⟩ := HK1.out _ hSw; obtain ⟨x0, x1, x2, x3, x4⟩ := (HXB.out _ hSw).got; go_simp <;> with_reducible rfl)
      try simp only [Act.put, List.setIfInBounds_toArray, List.set_cons_zero, List.set_cons_succ]
      refine wpAnyH_take (i := 2) (oi := { dst := some 14, op := _, type := _, pos := _, after := _, guard := _ }) (v := ?_) rfl (by kernel_rfl) (by kernel_rfl) (by kernel_rfl) (fun _ _ _ h => h) (Or.inl ⟨by rfl, ?_⟩) hHeld ?_
      rotate_left
      · (intro w hSw; obtain ⟨g0, g1, g2, g3, g4⟩ := HK1.out _ hSw; obtain ⟨x0, x1, x2, x3, x4⟩ := (HXB.out _ hSw).got; go_simp <;> with_reducible rfl)
      try simp only [Act.put, List.setIfInBounds_toArray, List.set_cons_zero, List.set_cons_succ]
      refine wpAnyH_take (i := 3) (oi := { dst := some 15, op := _, type := _, pos := _, after := _, guard := _ }) (v := ?_) rfl (by kernel_rfl) (by kernel_rfl) (by kernel_rfl) (fun _ _ _ h => h) (Or.inl ⟨by rfl, ?_⟩) hHeld ?_
      rotate_left
      · (intro w hSw; obtain ⟨g0, g1, g2, g3, g4⟩ := HK1.out _ hSw; obtain ⟨x0, x1, x2, x3, x4⟩ := (HXB.out _ hSw).got; go_simp <;> with_reducible rfl)
      try simp only [Act.put, List.setIfInBounds_toArray, List.set_cons_zero, List.set_cons_succ]
      refine wpAnyH_take (i := 4) (oi := { dst := some 16, op := _, type := _, pos := _, after := _, guard := _ }) (v := ?_) rfl (by kernel_rfl) (by kernel_rfl) (by kernel_rfl) (fun _ _ _ h => h) (Or.inl ⟨by rfl, ?_⟩) hHeld ?_
      rotate_left
      · (intro w hSw; obtain ⟨g0, g1, g2, g3, g4⟩ := HK1.out _ hSw; obtain ⟨x0, x1, x2, x3, x4⟩ := (HXB.out _ hSw).got; go_simp <;> with_reducible rfl)
      try simp only [Act.put, List.setIfInBounds_toArray, List.set_cons_zero, List.set_cons_succ]
      refine wpAnyH_take (i := 5) (oi := { dst := some 17, op := _, type := _, pos := _, after := _, guard := _ }) (v := ?_) rfl (by kernel_rfl) (by kernel_rfl) (by kernel_rfl) (fun _ _ _ h => h) (Or.inl ⟨by rfl, ?_⟩) hHeld ?_
      rotate_left
      · (intro w hSw; obtain ⟨g0, g1, g2, g3, g4⟩ := HK1.out _ hSw; obtain ⟨x0, x1, x2, x3, x4⟩ := (HXB.out _ hSw).got; go_simp <;> with_reducible rfl)
      try simp only [Act.put, List.setIfInBounds_toArray, List.set_cons_zero, List.set_cons_succ]
      refine wpAnyH_take (i := 6) (oi := { dst := some 18, op := _, type := _, pos := _, after := _, guard := _ }) (v := ?_) rfl (by kernel_rfl) (by kernel_rfl) (by kernel_rfl) (fun _ _ _ h => h) (Or.inl ⟨by rfl, ?_⟩) hHeld ?_
      rotate_left
      · (intro w hSw; obtain ⟨g0, g1, g2, g3, g4⟩ := HK1.out _ hSw; obtain ⟨x0, x1, x2, x3, x4⟩ := (HXB.out _ hSw).got; go_simp <;> with_reducible rfl)
      try simp only [Act.put, List.setIfInBounds_toArray, List.set_cons_zero, List.set_cons_succ]
      refine wpAnyH_take (i := 7) (oi := { dst := some 19, op := _, type := _, pos := _, after := _, guard := _ }) (v := ?_) rfl (by kernel_rfl) (by kernel_rfl) (by kernel_rfl) (fun _ _ _ h => h) (Or.inl ⟨by rfl, ?_⟩) hHeld ?_
      rotate_left
      · (intro w hSw; obtain ⟨g0, g1, g2, g3, g4⟩ := HK1.out _ hSw; obtain ⟨x0, x1, x2, x3, x4⟩ := (HXB.out _ hSw).got; go_simp <;> with_reducible rfl)
      try simp only [Act.put, List.setIfInBounds_toArray, List.set_cons_zero, List.set_cons_succ]
      refine wpAnyH_take (i := 8) (oi := { dst := some 20, op := _, type := _, pos := _, after := _, guard := _ }) (v := ?_) rfl (by kernel_rfl) (by kernel_rfl) (by kernel_rfl) (fun _ _ _ h => h) (Or.inl ⟨by rfl, ?_⟩) hHeld ?_
      rotate_left
      · (intro w hSw; obtain ⟨g0, g1, g2, g3, g4⟩ := HK1.out _ hSw; obtain ⟨x0, x1, x2, x3, x4⟩ := (HXB.out _ hSw).got; go_simp <;> with_reducible rfl)
      try simp only [Act.put, List.setIfInBounds_toArray, List.set_cons_zero, List.set_cons_succ]
      refine wpAnyH_take (i := 9) (oi := { dst := some 21, op := _, type := _, pos := _, after := _, guard := _ }) (v := ?_) rfl (by kernel_rfl) (by kernel_rfl) (by kernel_rfl) (fun _ _ _ h => h) (Or.inl ⟨by rfl, ?_⟩) hHeld ?_
      rotate_left
      · (intro w hSw; obtain ⟨g0, g1, g2, g3, g4⟩ := HK1.out _ hSw; obtain ⟨x0, x1, x2, x3, x4⟩ := (HXB.out _ hSw).got; go_simp <;> with_reducible rfl)
      try simp only [Act.put, List.setIfInBounds_toArray, List.set_cons_zero, List.set_cons_succ]
      refine wpAnyH_take (i := 10) (oi := { dst := some 22, op := _, type := _, pos := _, after := _, guard := _ }) (v := ?_) rfl (by kernel_rfl) (by kernel_rfl) (by kernel_rfl) (fun _ _ _ h => h) (Or.inl ⟨by rfl, ?_⟩) hHeld ?_
      rotate_left
      · (intro w hSw; obtain ⟨g0, g1, g2, g3, g4⟩ := HK1.out _ hSw; obtain ⟨x0, x1, x2, x3, x4⟩ := (HXB.out _ hSw).got; go_simp <;> with_reducible rfl)
      try simp only [Act.put, List.setIfInBounds_toArray, List.set_cons_zero, List.set_cons_succ]
      refine wpAnyH_take (i := 11) (oi := { dst := some 23, op := _, type := _, pos := _, after := _, guard := _ }) (v := ?_) rfl (by kernel_rfl) (by kernel_rfl) (by kernel_rfl) (fun _ _ _ h => h) (Or.inl ⟨by rfl, ?_⟩) hHeld ?_
      rotate_left
      · (intro w hSw; obtain ⟨g0, g1, g2, g3, g4⟩ := HK1.out _ hSw; obtain ⟨x0, x1, x2, x3, x4⟩ := (HXB.out _ hSw).got; go_simp <;> with_reducible rfl)
      try simp only [Act.put, List.setIfInBounds_toArray, List.set_cons_zero, List.set_cons_succ]
      refine wpAnyH_ready (rs := [12]) (by kernel_rfl) (by simp) ?_
      refine AllReadyH.cons (o := { dst := some 24, op := _, type := _, pos := _, after := _, guard := _ }) rfl (fun K hK => ?_) AllReadyH.nil
      go_simp
      refine (rless_any fa fc x.fa x.fc _).mono ?_
      rintro e u1 ⟨rfl, hk1⟩
      have hKeep := since_step hHeld hk1
      rw [HQ.out]
      go_wp2_with fail
      refine hK.out _ _ (by (try dsimp only); exact hKeep) (fun hHeld => ?_)
      clear hK K hKeep
      try simp only [Act.put, List.setIfInBounds_toArray, List.set_cons_zero, List.set_cons_succ]
      refine wpAnyH_take (i := 13) (oi := { dst := some 25, op := _, type := _, pos := _, after := _, guard := _ }) (v := ?_) rfl (by kernel_rfl) (by kernel_rfl) (by kernel_rfl) (fun _ _ _ h => h) (Or.inl ⟨by rfl, ?_⟩) hHeld ?_
      rotate_left
      · (intro w hSw; obtain ⟨g0, g1, g2, g3, g4⟩ := HK1.out _ hSw; obtain ⟨x0, x1, x2, x3, x4⟩ := (HXB.out _ hSw).got; go_simp <;> with_reducible rfl)
      try simp only [Act.put, List.setIfInBounds_toArray, List.set_cons_zero, List.set_cons_succ]
      refine wpAnyH_done (by kernel_rfl) ?_ _
      have hck : ¬ (c1 = k) := by omega
      have hkc : k ≤ c1 := by omega
      cases q with
      | true =>
        have HN2 := Lib.hid (HN.out rfl)
        have hB3 := hB.trans (hHeld.mono hB.size)
        go_wp2_with fail
        go_roundw
        case rel => exact ⟨k + 1, by omega, by go_num, HN2.out, hB3⟩
        case measure => simp [intOf]; omega
      | false =>
        have HE9 := Lib.hid (HE.out rfl)
        clear HE
        have HE := Lib.hid HE9.out
        clear HE9
        have HS1 : Hid (∀ V, Below wr.heap.size wr V → Sl V (some ⟨b, 0, none⟩) (rc Ch.cells (r.take k))) := Lib.hid fun V hV => by rw [← rc_take Ch.len]; exact (Sl.of_own (HO.out V hV)).take _
        have hlt1 : (rc Ch.cells (r.take k)).length = k * 5 := by rw [rc_length Ch.len, List.length_take, Nat.min_eq_left (by omega)]
        have HL1 := Lib.hid hlt1
        clear hlt1
        go_wp2_with (first
          | (at_builtin; refine wpList_app rfl (.tmp 28) (.tmp 31) rfl ECh rfl rfl (own_nil _ _ _) (m := k) (news := rc Ch.cells (r.take k)) HL1.out (HS1.out _ hHeld) (rc_one Ch.one _) (by unfold maxLen; omega) (by omega) (Nat.le_refl _) ?_; intro A2 c2 w2 hown2 hg2 hb2; simp only [Nat.zero_add, List.nil_append] at hown2; obtain ⟨x0, x1, x2, x3, x4⟩ := (HXB.out _ (hHeld.trans (hb2.mono hHeld.size))).got)
          | (at_builtin; refine wpList_app rfl (.tmp 33) (.tmp 35) rfl ECh rfl rfl (hown2.alloc _) (m := 1) (news := x.cells) rfl (Sl.new_ _ _ _) (Ch.one _) (by unfold maxLen; omega) (by omega) (by have h1 := hb2.size; simp only [World.size_alloc, World.size_drew] at h1 ⊢; omega) ?_; intro A3 c3 w3 hown3 hg3 hb3)
          | (at_builtin; refine wpList_app rfl (.tmp 37) (.tmp 40) rfl ECh rfl rfl hown3 (m := r.length - k) (news := (rc Ch.cells (r.drop k))) (by rw [rc_length Ch.len, List.length_drop]) (by rw [← rc_drop Ch.len]; exact Sl.drop0 (Sl.of_own (HO.out _ (hHeld.trans ((hb2.trans (((Below.refl _ _).alloc hb2.size _).trans hb3)).mono hHeld.size))))) (rc_one Ch.one _) (by unfold maxLen; omega) (by omega) (by have h1 := hb2.size; have h2 := hb3.size; simp only [World.size_alloc, World.size_drew] at h1 h2 ⊢; omega) ?_; intro A4 c4 w4 hown4 hg4 hb4)
          | fail)
        have hBf := hB2.trans ((hHeld.mono (Nat.le_of_lt hxl)).trans ((hb2.trans (((Below.refl _ _).alloc hb2.size _).trans (hb3.trans hb4))).mono (Nat.le_trans (Nat.le_of_lt hxl) hHeld.size)))
        have hown5 := own_base hown4 (Nat.le_trans (Nat.le_of_lt hxl) hHeld.size)
        go_ret
        refine ⟨⟨A4, c4, ?_, ?_⟩, hBf⟩
        · rw [HE.out]
          have e : (r.take k ++ x :: r.drop k).length = k + 1 + (r.length - k) := by simp; omega
          rw [e]; rfl
        · rw [HE.out]
          have e : (r.take k ++ x :: r.drop k).length = k + 1 + (r.length - k) := by simp; omega
          rw [e, rc_append, rc_cons, ← List.append_assoc]
          exact hown5
    · obtain rfl : k = r.length := by omega
      have HE : Hid (setL l x = r.take r.length ++ x :: r.drop r.length) := Lib.hid (HPL.out _ (Nat.le_refl _) hno (fun h => absurd h (by omega)))
      have hO0 := HO.out wr (Below.refl _ _)
      have hdr : r.drop r.length = [] := List.drop_length ..
      clear hno hown hx1
      go_wp2_with fail
      refine wp_region_held_drew (S := (fun V => Below wr.heap.size wr V)) (by kernel_rfl) (by exact (Below.refl _ _).drew) (fun hHeld => ?_)
      refine wpAnyH_take (i := 0) (oi := { dst := some 12, op := _, type := _, pos := _, after := _, guard := _ }) (v := ?_) rfl (by kernel_rfl) (by kernel_rfl) (by kernel_rfl) (fun _ _ _ h => h) (Or.inl ⟨by rfl, ?_⟩) hHeld ?_
      rotate_left
      · (intro w hSw; obtain ⟨x0, x1, x2, x3, x4⟩ := (HXB.out _ hSw).got; go_simp <;> with_reducible rfl)
      try simp only [Act.put, List.setIfInBounds_toArray, List.set_cons_zero, List.set_cons_succ]
      refine wpAnyH_take (i := 1) (oi := { dst := some 13, op := _, type := _, pos := _, after := _, guard := _ }) (v := ?_) rfl (by kernel_rfl) (by kernel_rfl) (by kernel_rfl) (fun _ _ _ h => h) (Or.inl ⟨by rfl, ?_⟩) hHeld ?_
      rotate_left
      · (intro w hSw; obtain ⟨x0, x1, x2, x3, x4⟩ := (HXB.out _ hSw).got; go_simp <;> with_reducible rfl)
      try simp only [Act.put, List.setIfInBounds_toArray, List.set_cons_zero, List.set_cons_succ]
      refine wpAnyH_take (i := 2) (oi := { dst := some 14, op := _, type := _, pos := _, after := _, guard := _ }) (v := ?_) rfl (by kernel_rfl) (by kernel_rfl) (by kernel_rfl) (fun _ _ _ h => h) (Or.inl ⟨by rfl, ?_⟩) hHeld ?_
      rotate_left
      · (intro w hSw; obtain ⟨x0, x1, x2, x3, x4⟩ := (HXB.out _ hSw).got; go_simp <;> with_reducible rfl)
      try simp only [Act.put, List.setIfInBounds_toArray, List.set_cons_zero, List.set_cons_succ]
      refine wpAnyH_take (i := 3) (oi := { dst := some 15, op := _, type := _, pos := _, after := _, guard := _ }) (v := ?_) rfl (by kernel_rfl) (by kernel_rfl) (by kernel_rfl) (fun _ _ _ h => h) (Or.inl ⟨by rfl, ?_⟩) hHeld ?_
      rotate_left
      · (intro w hSw; obtain ⟨x0, x1, x2, x3, x4⟩ := (HXB.out _ hSw).got; go_simp <;> with_reducible rfl)
      try simp only [Act.put, List.setIfInBounds_toArray, List.set_cons_zero, List.set_cons_succ]
      refine wpAnyH_take (i := 4) (oi := { dst := some 16, op := _, type := _, pos := _, after := _, guard := _ }) (v := ?_) rfl (by kernel_rfl) (by kernel_rfl) (by kernel_rfl) (fun _ _ _ h => h) (Or.inl ⟨by rfl, ?_⟩) hHeld ?_
      rotate_left
      · (intro w hSw; obtain ⟨x0, x1, x2, x3, x4⟩ := (HXB.out _ hSw).got; go_simp <;> with_reducible rfl)
      try simp only [Act.put, List.setIfInBounds_toArray, List.set_cons_zero, List.set_cons_succ]
      refine wpAnyH_take (i := 5) (oi := { dst := some 17, op := _, type := _, pos := _, after := _, guard := _ }) (v := undef) rfl (by kernel_rfl) (by kernel_rfl) (by kernel_rfl) (fun _ _ _ h => h) (Or.inr ⟨by rfl, rfl⟩) hHeld ?_
      try simp only [Act.put, List.setIfInBounds_toArray, List.set_cons_zero, List.set_cons_succ]
      refine wpAnyH_take (i := 6) (oi := { dst := some 18, op := _, type := _, pos := _, after := _, guard := _ }) (v := undef) rfl (by kernel_rfl) (by kernel_rfl) (by kernel_rfl) (fun _ _ _ h => h) (Or.inr ⟨by rfl, rfl⟩) hHeld ?_
      try simp only [Act.put, List.setIfInBounds_toArray, List.set_cons_zero, List.set_cons_succ]
      refine wpAnyH_take (i := 7) (oi := { dst := some 19, op := _, type := _, pos := _, after := _, guard := _ }) (v := undef) rfl (by kernel_rfl) (by kernel_rfl) (by kernel_rfl) (fun _ _ _ h => h) (Or.inr ⟨by rfl, rfl⟩) hHeld ?_
      try simp only [Act.put, List.setIfInBounds_toArray, List.set_cons_zero, List.set_cons_succ]
      refine wpAnyH_take (i := 8) (oi := { dst := some 20, op := _, type := _, pos := _, after := _, guard := _ }) (v := undef) rfl (by kernel_rfl) (by kernel_rfl) (by kernel_rfl) (fun _ _ _ h => h) (Or.inr ⟨by rfl, rfl⟩) hHeld ?_
      try simp only [Act.put, List.setIfInBounds_toArray, List.set_cons_zero, List.set_cons_succ]
      refine wpAnyH_take (i := 9) (oi := { dst := some 21, op := _, type := _, pos := _, after := _, guard := _ }) (v := undef) rfl (by kernel_rfl) (by kernel_rfl) (by kernel_rfl) (fun _ _ _ h => h) (Or.inr ⟨by rfl, rfl⟩) hHeld ?_
      try simp only [Act.put, List.setIfInBounds_toArray, List.set_cons_zero, List.set_cons_succ]
      refine wpAnyH_take (i := 10) (oi := { dst := some 22, op := _, type := _, pos := _, after := _, guard := _ }) (v := undef) rfl (by kernel_rfl) (by kernel_rfl) (by kernel_rfl) (fun _ _ _ h => h) (Or.inr ⟨by rfl, rfl⟩) hHeld ?_
      try simp only [Act.put, List.setIfInBounds_toArray, List.set_cons_zero, List.set_cons_succ]
      refine wpAnyH_take (i := 11) (oi := { dst := some 23, op := _, type := _, pos := _, after := _, guard := _ }) (v := undef) rfl (by kernel_rfl) (by kernel_rfl) (by kernel_rfl) (fun _ _ _ h => h) (Or.inr ⟨by rfl, rfl⟩) hHeld ?_
      try simp only [Act.put, List.setIfInBounds_toArray, List.set_cons_zero, List.set_cons_succ]
      refine wpAnyH_take (i := 12) (oi := { dst := some 24, op := _, type := _, pos := _, after := _, guard := _ }) (v := undef) rfl (by kernel_rfl) (by kernel_rfl) (by kernel_rfl) (fun _ _ _ h => h) (Or.inr ⟨by rfl, rfl⟩) hHeld ?_
      try simp only [Act.put, List.setIfInBounds_toArray, List.set_cons_zero, List.set_cons_succ]
      refine wpAnyH_take (i := 13) (oi := { dst := some 25, op := _, type := _, pos := _, after := _, guard := _ }) (v := ?_) rfl (by kernel_rfl) (by kernel_rfl) (by kernel_rfl) (fun _ _ _ h => h) (Or.inl ⟨by rfl, ?_⟩) hHeld ?_
      rotate_left
      · (intro w hSw; obtain ⟨x0, x1, x2, x3, x4⟩ := (HXB.out _ hSw).got; go_simp <;> with_reducible rfl)
      try simp only [Act.put, List.setIfInBounds_toArray, List.set_cons_zero, List.set_cons_succ]
      refine wpAnyH_done (by kernel_rfl) ?_ _
      rcases hO0.2 with ⟨h0, h1⟩ | ⟨g', cap', cur', h0, _, _, h3, h4, _⟩
      · injection h0 with e1 e2 e3
        subst e1; subst e3
        have hrn : r = [] := List.eq_nil_of_length_eq_zero h1
        subst hrn
        simp only [List.length_nil] at *
        have HS1 : Hid (∀ V, Below wr.heap.size wr V → Sl V none (rc Ch.cells (([] : List Ch).take 0))) := Lib.hid fun V hV => by rw [← rc_take Ch.len]; exact (Sl.of_own (HO.out V hV)).take _
        have hlt1 : (rc Ch.cells (([] : List Ch).take 0)).length = 0 * 5 := by rw [rc_length Ch.len, List.length_take, Nat.min_eq_left (by omega)]
        have HL1 := Lib.hid hlt1
        clear hlt1
        go_wp2_with (first
          | (at_builtin; refine wpList_app rfl (.tmp 28) (.tmp 31) rfl ECh rfl rfl (own_nil _ _ _) (m := 0) (news := rc Ch.cells (([] : List Ch).take 0)) HL1.out (HS1.out _ hHeld) (rc_one Ch.one _) (by unfold maxLen; omega) (by omega) (Nat.le_refl _) ?_; intro A2 c2 w2 hown2 hg2 hb2; simp only [Nat.zero_add, List.nil_append] at hown2; obtain ⟨x0, x1, x2, x3, x4⟩ := (HXB.out _ (hHeld.trans (hb2.mono hHeld.size))).got)
          | (at_builtin; refine wpList_app rfl (.tmp 33) (.tmp 35) rfl ECh rfl rfl (hown2.alloc _) (m := 1) (news := x.cells) rfl (Sl.new_ _ _ _) (Ch.one _) (by unfold maxLen; omega) (by omega) (by have h1 := hb2.size; simp only [World.size_alloc, World.size_drew] at h1 ⊢; omega) ?_; intro A3 c3 w3 hown3 hg3 hb3)
          | (at_builtin; refine wpList_app rfl (.tmp 37) (.tmp 40) rfl ECh rfl rfl hown3 (m := 0) (news := []) rfl Sl.nil (by intro u hu; cases hu) (by unfold maxLen; omega) (by omega) (by have h1 := hb2.size; have h2 := hb3.size; simp only [World.size_alloc, World.size_drew] at h1 h2 ⊢; omega) ?_; intro A4 c4 w4 hown4 hg4 hb4)
          | fail)
        have hBf := hB2.trans ((hHeld.mono (Nat.le_of_lt hxl)).trans ((hb2.trans (((Below.refl _ _).alloc hb2.size _).trans (hb3.trans hb4))).mono (Nat.le_trans (Nat.le_of_lt hxl) hHeld.size)))
        have hown5 := own_base hown4 (Nat.le_trans (Nat.le_of_lt hxl) hHeld.size)
        go_ret
        refine ⟨⟨A4, c4, ?_, ?_⟩, hBf⟩
        · rw [HE.out]
          have e : (([] : List Ch).take 0 ++ x :: ([] : List Ch).drop 0).length = 0 + 1 + 0 := by rw [hdr]; simp
          rw [e]; rfl
        · rw [HE.out]
          have e : (([] : List Ch).take 0 ++ x :: ([] : List Ch).drop 0).length = 0 + 1 + 0 := by rw [hdr]; simp
          rw [e, rc_append, rc_cons, hdr, ← List.append_assoc]
          exact hown5
      · injection h0 with e1 e2 e3
        subst e1; subst e3
        unfold maxLen at h4
        by_cases hcr : c1 = r.length
        · subst hcr
          have HS1 : Hid (∀ V, Below wr.heap.size wr V → Sl V (some ⟨g', 0, none⟩) (rc Ch.cells (r.take r.length))) := Lib.hid fun V hV => by rw [← rc_take Ch.len]; exact (Sl.of_own (HO.out V hV)).take _
          have hlt1 : (rc Ch.cells (r.take r.length)).length = r.length * 5 := by rw [rc_length Ch.len, List.length_take, Nat.min_eq_left (by omega)]
          have HL1 := Lib.hid hlt1
          clear hlt1
          go_wp2_with (first
            | (at_builtin; refine wpList_app rfl (.tmp 28) (.tmp 31) rfl ECh rfl rfl (own_nil _ _ _) (m := r.length) (news := rc Ch.cells (r.take r.length)) HL1.out (HS1.out _ hHeld) (rc_one Ch.one _) (by unfold maxLen; omega) (by omega) (Nat.le_refl _) ?_; intro A2 c2 w2 hown2 hg2 hb2; simp only [Nat.zero_add, List.nil_append] at hown2; obtain ⟨x0, x1, x2, x3, x4⟩ := (HXB.out _ (hHeld.trans (hb2.mono hHeld.size))).got)
            | (at_builtin; refine wpList_app rfl (.tmp 33) (.tmp 35) rfl ECh rfl rfl (hown2.alloc _) (m := 1) (news := x.cells) rfl (Sl.new_ _ _ _) (Ch.one _) (by unfold maxLen; omega) (by omega) (by have h1 := hb2.size; simp only [World.size_alloc, World.size_drew] at h1 ⊢; omega) ?_; intro A3 c3 w3 hown3 hg3 hb3)
            | (at_builtin; refine wpList_app rfl (.tmp 37) (.tmp 40) rfl ECh rfl rfl hown3 (m := 0) (news := []) rfl Sl.nil (by intro u hu; cases hu) (by unfold maxLen; omega) (by omega) (by have h1 := hb2.size; have h2 := hb3.size; simp only [World.size_alloc, World.size_drew] at h1 h2 ⊢; omega) ?_; intro A4 c4 w4 hown4 hg4 hb4)
            | fail)
          have hBf := hB2.trans ((hHeld.mono (Nat.le_of_lt hxl)).trans ((hb2.trans (((Below.refl _ _).alloc hb2.size _).trans (hb3.trans hb4))).mono (Nat.le_trans (Nat.le_of_lt hxl) hHeld.size)))
          have hown5 := own_base hown4 (Nat.le_trans (Nat.le_of_lt hxl) hHeld.size)
          go_ret
          refine ⟨⟨A4, c4, ?_, ?_⟩, hBf⟩
          · rw [HE.out]
            have e : (r.take r.length ++ x :: r.drop r.length).length = r.length + 1 + 0 := by rw [hdr]; simp
            rw [e]; rfl
          · rw [HE.out]
            have e : (r.take r.length ++ x :: r.drop r.length).length = r.length + 1 + 0 := by rw [hdr]; simp
            rw [e, rc_append, rc_cons, hdr, ← List.append_assoc]
            exact hown5
        · have hck : ¬ (c1 = r.length) := hcr
          have HS1 : Hid (∀ V, Below wr.heap.size wr V → Sl V (some ⟨g', 0, none⟩) (rc Ch.cells (r.take r.length))) := Lib.hid fun V hV => by rw [← rc_take Ch.len]; exact (Sl.of_own (HO.out V hV)).take _
          have hlt1 : (rc Ch.cells (r.take r.length)).length = r.length * 5 := by rw [rc_length Ch.len, List.length_take, Nat.min_eq_left (by omega)]
          have HL1 := Lib.hid hlt1
          clear hlt1
          go_wp2_with (first
            | (at_builtin; refine wpList_app rfl (.tmp 28) (.tmp 31) rfl ECh rfl rfl (own_nil _ _ _) (m := r.length) (news := rc Ch.cells (r.take r.length)) HL1.out (HS1.out _ hHeld) (rc_one Ch.one _) (by unfold maxLen; omega) (by omega) (Nat.le_refl _) ?_; intro A2 c2 w2 hown2 hg2 hb2; simp only [Nat.zero_add, List.nil_append] at hown2; obtain ⟨x0, x1, x2, x3, x4⟩ := (HXB.out _ (hHeld.trans (hb2.mono hHeld.size))).got)
            | (at_builtin; refine wpList_app rfl (.tmp 33) (.tmp 35) rfl ECh rfl rfl (hown2.alloc _) (m := 1) (news := x.cells) rfl (Sl.new_ _ _ _) (Ch.one _) (by unfold maxLen; omega) (by omega) (by have h1 := hb2.size; simp only [World.size_alloc, World.size_drew] at h1 ⊢; omega) ?_; intro A3 c3 w3 hown3 hg3 hb3)
            | (at_builtin; refine wpList_app rfl (.tmp 37) (.tmp 40) rfl ECh rfl rfl hown3 (m := 0) (news := []) rfl Sl.nil (by intro u hu; cases hu) (by unfold maxLen; omega) (by omega) (by have h1 := hb2.size; have h2 := hb3.size; simp only [World.size_alloc, World.size_drew] at h1 h2 ⊢; omega) ?_; intro A4 c4 w4 hown4 hg4 hb4)
            | fail)
          have hBf := hB2.trans ((hHeld.mono (Nat.le_of_lt hxl)).trans ((hb2.trans (((Below.refl _ _).alloc hb2.size _).trans (hb3.trans hb4))).mono (Nat.le_trans (Nat.le_of_lt hxl) hHeld.size)))
          have hown5 := own_base hown4 (Nat.le_trans (Nat.le_of_lt hxl) hHeld.size)
          go_ret
          refine ⟨⟨A4, c4, ?_, ?_⟩, hBf⟩
          · rw [HE.out]
            have e : (r.take r.length ++ x :: r.drop r.length).length = r.length + 1 + 0 := by rw [hdr]; simp
            rw [e]; rfl
          · rw [HE.out]
            have e : (r.take r.length ++ x :: r.drop r.length).length = r.length + 1 + 0 := by rw [hdr]; simp
            rw [e, rc_append, rc_cons, hdr, ← List.append_assoc]
            exact hown5
end Go.Proofs.Ytniapgcohihkhaa
