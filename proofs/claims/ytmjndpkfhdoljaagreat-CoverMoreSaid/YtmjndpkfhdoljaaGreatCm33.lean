import Derived.Test.YtmjndpkfhdoljaaGreatCm32
set_option maxHeartbeats 16000000
set_option maxRecDepth 100000
set_option linter.unusedVariables false
set_option linter.unusedSimpArgs false
namespace Go.Proofs.YtmjndpkfhdoljaaGreat
open Go.ChangeShapes Go.WideShapes Go.ChangeAt Go.RowKit
section
theorem Sl.drop0_At5 {w : World} {g n : Nat} {xs : List Value} (h : Sl w (some ⟨g, 0, none⟩) xs) : Sl w (some ⟨g, n, none⟩) (xs.drop n) := by
  intro hne
  obtain ⟨b, o, e, hc⟩ := h (by rintro rfl; simp at hne)
  injection e with e
  injection e with e1 e2 e3
  subst e1; subst e2
  refine ⟨g, n, rfl, fun j u hu => ?_⟩
  rw [List.getElem?_drop] at hu
  have := hc _ _ hu
  rwa [Nat.zero_add] at this
theorem findIdx_of_At5 {α : Type} {p : α → Bool} {l : List α} {k : Nat} (hk : k ≤ l.length) (h : ∀ j, (hj : j < l.length) → j < k → p l[j] = false) (he : ∀ hj : k < l.length, p l[k] = true) : l.findIdx p = k := by
  rcases Nat.lt_or_ge k l.length with h1 | h1
  · rw [List.findIdx_eq h1]
    exact ⟨he h1, fun j hj => h j (by omega) hj⟩
  · have e : k = l.length := by omega
    rw [e, List.findIdx_eq_length]
    intro x hx
    obtain ⟨j, hj, rfl⟩ := List.getElem_of_mem hx
    exact h j hj (by omega)
theorem own_capM {w : World} {base : Nat} {e : TypeId} {size n c : Nat} {A : Option Addr} {xs : List Value} (h : w.ownsRow base e size (.slice A n c) n xs) : n ≤ c ∧ c ≤ maxLen := by
  rcases h.2 with ⟨hv, h0⟩ | ⟨g, cap, cur, hv, hg, hh, hnc, hcm, _⟩
  · injection hv with e1 e2 e3; subst e3; subst h0; exact ⟨Nat.le_refl _, by decide⟩
  · injection hv with e1 e2 e3; subst e3; exact ⟨hnc, hcm⟩
theorem rputm_any (B0 : Nat) (A : Option Addr) (cap : Nat) (l : List Ax) (x : Ax) (w : World) (hl : l.length ≤ 900000) (hown : w.ownsRow B0 63 3 (.slice A l.length cap) l.length (rc Ax.cells l)) (hsd : Sorted l) :
  Calls Tryz.prog 41 #[.slice A l.length cap, x.val] w fun e w' => MRes w.heap.size w' e (putMR l x) ∧ Below w.heap.size w w' := by
 have hB0 := since_alloc (Below.refl _ w) (.cells x.cells.toArray 63)
 have hx0 := Ax.Bx.new w x
 have hown0 := hown.alloc (.cells x.cells.toArray 63)
 have HIS := Lib.hid (fun W => mis_any x W)
 have HFD := Lib.hid (fun W h => rfindm_any A cap l x.id W (by omega) h)
 clear hown
 by_cases hok : okM x
 rotate_left
 ·have HI : Hid (decide (okM x) = false) := Lib.hid (decide_eq_false hok)
  have HR : Hid ((putMR l x) = (2, [])) := Lib.hid (by rw [putMR, if_pos hok])
  clear hok
  unfold Ax.val at HIS ⊢
  go_enter Tryz.func41, Tryz.ntmps41
  go_wp2_with fail
  refine (HIS.out _).mono ?_
  rintro e w1 ⟨rfl, hb1⟩
  have hB1 := since_step hB0 hb1
  rw [HI.out]
  go_wp2_with fail
  go_ret2
  rw [HR.out]
  exact ⟨MRes.nil _ _ _, hB1⟩
 ·have HI : Hid (decide (okM x) = true) := Lib.hid (decide_eq_true hok)
  rcases mfind_cases l x.id with ⟨hh, hat, hfz, hfn⟩ | ⟨kk, hkk, hh, hat, hfk, hid, hbefore⟩
  ·have HPL : Hid (∀ k, k ≤ l.length → (∀ j, (hj : j < l.length) → j < k → ahM l[j] x = true) → (∀ hj : k < l.length, ahM l[k] x = false) → putMR l x = (0, l.take k ++ x :: l.drop k)) := Lib.hid fun k hk h1 h2 => by
    have h9 := insM hsd x hfn
    rw [findIdx_of_At5 hk (fun j hj hjk => by rw [h1 j hj hjk]; rfl) (fun hj => by rw [h2 hj]; rfl)] at h9
    rw [putMR, if_neg (by simpa using hok), if_neg (by rw [hh]; decide), h9]
   have HH := Lib.hid hh
   clear hok hh hat hfz hfn hsd
   unfold Ax.val at HIS ⊢
   go_enter Tryz.func41, Tryz.ntmps41
   go_wp2_with fail
   refine (HIS.out _).mono ?_
   rintro e w1 ⟨rfl, hb1⟩
   have hB1 := since_step hB0 hb1
   have hx1 := hx0.below hb1
   have hown1 := own_below hown0 hb1
   obtain ⟨x0, x1, x2⟩ := hx1.got
   clear hb1
   rw [HI.out]
   go_wp2_with fail
   refine (HFD.out _ (Sl.of_own hown1)).mono ?_
   rintro e w2 ⟨rfl, hb2⟩
   have hB2' := since_step hB1 hb2
   have hx2 := hx1.below hb2
   have hown2' := own_below hown1 hb2
   clear x0 x1 x2 hb2 hown1 hx1 hx0 hown0
   rw [HH.out]
   generalize findM l x.id = fm
   unfold Ax.val
   have hB1 := since_alloc hB2' (.cells fm.cells.toArray 63)
   have hx1 := hx2.below ((Below.refl _ _).alloc (Nat.le_refl _) (.cells fm.cells.toArray 63))
   have hown := hown2'.alloc (.cells fm.cells.toArray 63)
   have hcs := @cell_set
   clear hB2' hx2 hown2'
   go_upto_region 6 with fail
   unfold Ax.cells at hB1 hx1 hown
   generalize hWW : w2.alloc (.cells #[.int .i64 fm.id, .int .i64 fm.price, .int .i64 fm.hc] 63) = W1 at *
   clear hWW
   go_wp2_with fail
   go_loopw [9] (fun i wr => ∃ k : Nat, k ≤ l.length ∧ i = .int .i64 k ∧ (∀ j, (hj : j < l.length) → j < k → ahM l[j] x = true) ∧ Below W1.heap.size W1 wr) (fun i _ => l.length - (intOf i).toNat)
   case atStart => exact ⟨0, by omega, rfl, fun j hj h => absurd h (by omega), Below.refl _ _⟩
   case round =>
    obtain ⟨k, hk, rfl, hno, hB⟩ := hrel
    have hB2 : Below w.heap.size w wr := since_step hB1 hB
    have HXB : Hid (∀ V, Below wr.heap.size wr V → Ax.Bx V w.heap.size x) := Lib.hid fun V hV => (hx1.below hB).below hV
    have HO : Hid (∀ V, Below wr.heap.size wr V → V.ownsRow B0 63 3 (.slice A l.length cap) l.length (rc Ax.cells l)) := Lib.hid fun V hV => own_below (own_below hown hB) hV
    have hxl : w.heap.size < wr.heap.size := (HXB.out wr (Below.refl _ _)).lt
    by_cases hlt : k < l.length
    ·have hO0 := HO.out wr (Below.refl _ _)
     obtain ⟨gb, rfl, hgb, hgw, _⟩ := own_at hO0 (by omega)
     obtain ⟨b, o, eb, hbw, hg⟩ := (Sl.of_own hO0).ax hlt
     injection eb with eb
     injection eb with e1 e2 e3
     subst e1; subst e2
     simp only [Nat.zero_add] at hg
     have hc1 := own_capM hO0
     unfold maxLen at hc1
     obtain ⟨hc1, hcm⟩ := hc1
     have HK1 : Hid (∀ V, Below wr.heap.size wr V → l[k].at V gb (k * 3)) := Lib.hid fun V hV => Ax.at_keep (w := wr) hg fun i => hV.cell (p := ⟨gb, i, none⟩) hbw
     have hlk : (k : Int) < (l.length : Int) := by omega
     have hck : ¬ (cap = k) := by omega
     have hkc : k ≤ cap := by omega
     by_cases hq : ahM l[k] x = true
     ·have HN : Hid (∀ j, (hj : j < l.length) → j < k + 1 → ahM l[j] x = true) := Lib.hid fun j hj hjk => by
       rcases Nat.lt_or_ge j k with h | h
       ·exact hno j hj h
       ·obtain rfl : j = k := by omega
        exact hq
      have hq2 : l[k].id < x.id := by simpa [ahM] using hq
      clear hno hown hx1 hg hbw hq hO0
      generalize l[k] = v at HK1 hq2
      obtain ⟨vid, vr, vp⟩ := v
      unfold Ax.at at HK1
      simp only at HK1 hq2
      go_wp2_with fail
      refine wp_region_held_drew (S := (fun V => Below wr.heap.size wr V)) (by kernel_rfl) (by exact (Below.refl _ _).drew) (fun hHeld => ?_)
      refine tkI 0 21 rfl (by intro w hSw; obtain ⟨g0, g1, g2⟩ := HK1.out _ hSw; obtain ⟨x0, x1, x2⟩ := (HXB.out _ hSw).got; go_simp <;> with_reducible rfl) hHeld ?_; simp only [pqZ]
      refine tkI 1 22 rfl (by intro w hSw; obtain ⟨g0, g1, g2⟩ := HK1.out _ hSw; obtain ⟨x0, x1, x2⟩ := (HXB.out _ hSw).got; go_simp <;> with_reducible rfl) hHeld ?_; simp only [pqZ]
      refine tkI 2 23 rfl (by intro w hSw; obtain ⟨g0, g1, g2⟩ := HK1.out _ hSw; obtain ⟨x0, x1, x2⟩ := (HXB.out _ hSw).got; go_simp <;> with_reducible rfl) hHeld ?_; simp only [pqZ]
      refine tkI 3 24 rfl (by intro w hSw; obtain ⟨g0, g1, g2⟩ := HK1.out _ hSw; obtain ⟨x0, x1, x2⟩ := (HXB.out _ hSw).got; go_simp <;> with_reducible rfl) hHeld ?_; simp only [pqZ]
      refine tkI 4 25 rfl (by intro w hSw; obtain ⟨g0, g1, g2⟩ := HK1.out _ hSw; obtain ⟨x0, x1, x2⟩ := (HXB.out _ hSw).got; go_simp <;> with_reducible rfl) hHeld ?_; simp only [pqZ]
      refine tkI 5 26 rfl (by intro w hSw; obtain ⟨g0, g1, g2⟩ := HK1.out _ hSw; obtain ⟨x0, x1, x2⟩ := (HXB.out _ hSw).got; go_simp <;> with_reducible rfl) hHeld ?_; simp only [pqZ]
      refine tkI 6 27 rfl (by intro w hSw; obtain ⟨g0, g1, g2⟩ := HK1.out _ hSw; obtain ⟨x0, x1, x2⟩ := (HXB.out _ hSw).got; go_simp <;> with_reducible rfl) hHeld ?_; simp only [pqZ]
      refine tkI 7 28 rfl (by intro w hSw; obtain ⟨g0, g1, g2⟩ := HK1.out _ hSw; obtain ⟨x0, x1, x2⟩ := (HXB.out _ hSw).got; go_simp <;> with_reducible rfl) hHeld ?_; simp only [pqZ]
      refine tkI 8 29 rfl (by intro w hSw; obtain ⟨g0, g1, g2⟩ := HK1.out _ hSw; obtain ⟨x0, x1, x2⟩ := (HXB.out _ hSw).got; go_simp <;> with_reducible rfl) hHeld ?_; simp only [pqZ]
      refine tkI 9 30 rfl (by intro w hSw; obtain ⟨g0, g1, g2⟩ := HK1.out _ hSw; obtain ⟨x0, x1, x2⟩ := (HXB.out _ hSw).got; go_simp <;> with_reducible rfl) hHeld ?_; simp only [pqZ]
      refine tkI 10 31 rfl (by intro w hSw; obtain ⟨g0, g1, g2⟩ := HK1.out _ hSw; obtain ⟨x0, x1, x2⟩ := (HXB.out _ hSw).got; go_simp <;> with_reducible rfl) hHeld ?_; simp only [pqZ]
      refine tkI 11 32 rfl (by intro w hSw; obtain ⟨g0, g1, g2⟩ := HK1.out _ hSw; obtain ⟨x0, x1, x2⟩ := (HXB.out _ hSw).got; go_simp <;> with_reducible rfl) hHeld ?_; simp only [pqZ]
      refine tkI 12 33 rfl (by intro w hSw; obtain ⟨g0, g1, g2⟩ := HK1.out _ hSw; obtain ⟨x0, x1, x2⟩ := (HXB.out _ hSw).got; go_simp <;> with_reducible rfl) hHeld ?_; simp only [pqZ]
      refine tkI 13 34 rfl (by intro w hSw; obtain ⟨g0, g1, g2⟩ := HK1.out _ hSw; obtain ⟨x0, x1, x2⟩ := (HXB.out _ hSw).got; go_simp <;> with_reducible rfl) hHeld ?_; simp only [pqZ]
      refine wpAnyH_done (by kernel_rfl) ?_ _
      have HN2 := HN
      have hB3 := hB.trans (hHeld.mono hB.size)
      go_wp2_with fail
      go_roundw
      case rel => exact ⟨k + 1, by omega, by go_num, HN2.out, hB3⟩
      case measure => simp [intOf]; omega
     ·have hq2 : ¬ l[k].id < x.id := by simpa [ahM] using hq
      have HE : Hid (putMR l x = (0, l.take k ++ x :: l.drop k)) := Lib.hid (HPL.out k hk hno (fun _ => by simpa using hq))
      clear hno hown hx1 hg hbw hq hO0
      generalize l[k] = v at HK1 hq2
      obtain ⟨vid, vr, vp⟩ := v
      unfold Ax.at at HK1
      simp only at HK1 hq2
      go_wp2_with fail
      refine wp_region_held_drew (S := (fun V => Below wr.heap.size wr V)) (by kernel_rfl) (by exact (Below.refl _ _).drew) (fun hHeld => ?_)
      refine tkI 0 21 rfl (by intro w hSw; obtain ⟨g0, g1, g2⟩ := HK1.out _ hSw; obtain ⟨x0, x1, x2⟩ := (HXB.out _ hSw).got; go_simp <;> with_reducible rfl) hHeld ?_; simp only [pqZ]
      refine tkI 1 22 rfl (by intro w hSw; obtain ⟨g0, g1, g2⟩ := HK1.out _ hSw; obtain ⟨x0, x1, x2⟩ := (HXB.out _ hSw).got; go_simp <;> with_reducible rfl) hHeld ?_; simp only [pqZ]
      refine tkI 2 23 rfl (by intro w hSw; obtain ⟨g0, g1, g2⟩ := HK1.out _ hSw; obtain ⟨x0, x1, x2⟩ := (HXB.out _ hSw).got; go_simp <;> with_reducible rfl) hHeld ?_; simp only [pqZ]
      refine tkI 3 24 rfl (by intro w hSw; obtain ⟨g0, g1, g2⟩ := HK1.out _ hSw; obtain ⟨x0, x1, x2⟩ := (HXB.out _ hSw).got; go_simp <;> with_reducible rfl) hHeld ?_; simp only [pqZ]
      refine tkI 4 25 rfl (by intro w hSw; obtain ⟨g0, g1, g2⟩ := HK1.out _ hSw; obtain ⟨x0, x1, x2⟩ := (HXB.out _ hSw).got; go_simp <;> with_reducible rfl) hHeld ?_; simp only [pqZ]
      refine tkI 5 26 rfl (by intro w hSw; obtain ⟨g0, g1, g2⟩ := HK1.out _ hSw; obtain ⟨x0, x1, x2⟩ := (HXB.out _ hSw).got; go_simp <;> with_reducible rfl) hHeld ?_; simp only [pqZ]
      refine tkI 6 27 rfl (by intro w hSw; obtain ⟨g0, g1, g2⟩ := HK1.out _ hSw; obtain ⟨x0, x1, x2⟩ := (HXB.out _ hSw).got; go_simp <;> with_reducible rfl) hHeld ?_; simp only [pqZ]
      refine tkI 7 28 rfl (by intro w hSw; obtain ⟨g0, g1, g2⟩ := HK1.out _ hSw; obtain ⟨x0, x1, x2⟩ := (HXB.out _ hSw).got; go_simp <;> with_reducible rfl) hHeld ?_; simp only [pqZ]
      refine tkI 8 29 rfl (by intro w hSw; obtain ⟨g0, g1, g2⟩ := HK1.out _ hSw; obtain ⟨x0, x1, x2⟩ := (HXB.out _ hSw).got; go_simp <;> with_reducible rfl) hHeld ?_; simp only [pqZ]
      refine tkI 9 30 rfl (by intro w hSw; obtain ⟨g0, g1, g2⟩ := HK1.out _ hSw; obtain ⟨x0, x1, x2⟩ := (HXB.out _ hSw).got; go_simp <;> with_reducible rfl) hHeld ?_; simp only [pqZ]
      refine tkI 10 31 rfl (by intro w hSw; obtain ⟨g0, g1, g2⟩ := HK1.out _ hSw; obtain ⟨x0, x1, x2⟩ := (HXB.out _ hSw).got; go_simp <;> with_reducible rfl) hHeld ?_; simp only [pqZ]
      refine tkI 11 32 rfl (by intro w hSw; obtain ⟨g0, g1, g2⟩ := HK1.out _ hSw; obtain ⟨x0, x1, x2⟩ := (HXB.out _ hSw).got; go_simp <;> with_reducible rfl) hHeld ?_; simp only [pqZ]
      refine tkI 12 33 rfl (by intro w hSw; obtain ⟨g0, g1, g2⟩ := HK1.out _ hSw; obtain ⟨x0, x1, x2⟩ := (HXB.out _ hSw).got; go_simp <;> with_reducible rfl) hHeld ?_; simp only [pqZ]
      refine tkI 13 34 rfl (by intro w hSw; obtain ⟨g0, g1, g2⟩ := HK1.out _ hSw; obtain ⟨x0, x1, x2⟩ := (HXB.out _ hSw).got; go_simp <;> with_reducible rfl) hHeld ?_; simp only [pqZ]
      refine wpAnyH_done (by kernel_rfl) ?_ _
      have HS1 : Hid (∀ V, Below wr.heap.size wr V → Sl V (some ⟨gb, 0, none⟩) (rc Ax.cells (l.take k))) := Lib.hid fun V hV => by rw [← rc_take Ax.len]; exact (Sl.of_own (HO.out V hV)).take _
      have hlt1 : (rc Ax.cells (l.take k)).length = k * 3 := by rw [rc_length Ax.len, List.length_take, Nat.min_eq_left (by omega)]
      have HL1 := Lib.hid hlt1
      clear hlt1
      go_wp2_with (first
       | (at_builtin; refine wpList_app rfl (.tmp 37) (.tmp 40) rfl EAx rfl rfl (own_nil _ _ _) (m := k) (news := rc Ax.cells (l.take k)) HL1.out (HS1.out _ hHeld) (rc_one Ax.one _) (by unfold maxLen; omega) (by omega) (Nat.le_refl _) ?_; intro A2 c2 w3 hown2 hg2 hb2; simp only [Nat.zero_add, List.nil_append] at hown2; obtain ⟨x0, x1, x2⟩ := (HXB.out _ (hHeld.trans (hb2.mono hHeld.size))).got)
       | (at_builtin; refine wpList_app rfl (.tmp 42) (.tmp 44) rfl EAx rfl rfl (hown2.alloc _) (m := 1) (news := x.cells) rfl (Sl.new_ _ _ _) (Ax.one _) (by unfold maxLen; omega) (by omega) (by have h1 := hb2.size; simp only [World.size_alloc, World.size_drew] at h1 ⊢; omega) ?_; intro A3 c3 w4 hown3 hg3 hb3)
       | (at_builtin; refine wpList_app rfl (.tmp 46) (.tmp 49) rfl EAx rfl rfl hown3 (m := l.length - k) (news := (rc Ax.cells (l.drop k))) (by rw [rc_length Ax.len, List.length_drop]) (by rw [← rc_drop Ax.len]; exact Sl.drop0_At5 (Sl.of_own (HO.out _ (hHeld.trans ((hb2.trans (((Below.refl _ _).alloc hb2.size _).trans hb3)).mono hHeld.size))))) (rc_one Ax.one _) (by unfold maxLen; omega) (by omega) (by have h1 := hb2.size; have h2 := hb3.size; simp only [World.size_alloc, World.size_drew] at h1 h2 ⊢; omega) ?_; intro A4 c4 w5 hown4 hg4 hb4)
       | fail)
      have hBf := hB2.trans ((hHeld.mono (Nat.le_of_lt hxl)).trans ((hb2.trans (((Below.refl _ _).alloc hb2.size _).trans (hb3.trans hb4))).mono (Nat.le_trans (Nat.le_of_lt hxl) hHeld.size)))
      have hown5 := own_base hown4 (Nat.le_trans (Nat.le_of_lt hxl) hHeld.size)
      go_ret2
      refine ⟨⟨A4, c4, ?_, ?_⟩, hBf⟩
      ·rw [HE.out]
       have e : (l.take k ++ x :: l.drop k).length = k + 1 + (l.length - k) := by simp; omega
       simp only [e]; rfl
      ·rw [HE.out]
       have e : (l.take k ++ x :: l.drop k).length = k + 1 + (l.length - k) := by simp; omega
       simp only [e]
       rw [rc_append, rc_cons, ← List.append_assoc]
       exact hown5
    ·obtain rfl : k = l.length := by omega
     have HE : Hid (putMR l x = (0, l.take l.length ++ x :: l.drop l.length)) := Lib.hid (HPL.out _ (Nat.le_refl _) hno (fun h => absurd h (by omega)))
     have hO0 := HO.out wr (Below.refl _ _)
     have hdr : l.drop l.length = [] := List.drop_length ..
     clear hno hown hx1
     go_wp2_with fail
     refine wp_region_held_drew (S := (fun V => Below wr.heap.size wr V)) (by kernel_rfl) (by exact (Below.refl _ _).drew) (fun hHeld => ?_)
     refine tkI 0 21 rfl (by intro w hSw; obtain ⟨x0, x1, x2⟩ := (HXB.out _ hSw).got; go_simp <;> with_reducible rfl) hHeld ?_; simp only [pqZ]
     refine tkI 1 22 rfl (by intro w hSw; obtain ⟨x0, x1, x2⟩ := (HXB.out _ hSw).got; go_simp <;> with_reducible rfl) hHeld ?_; simp only [pqZ]
     refine tkI 2 23 rfl (by intro w hSw; obtain ⟨x0, x1, x2⟩ := (HXB.out _ hSw).got; go_simp <;> with_reducible rfl) hHeld ?_; simp only [pqZ]
     refine tkI 3 24 rfl (by intro w hSw; obtain ⟨x0, x1, x2⟩ := (HXB.out _ hSw).got; go_simp <;> with_reducible rfl) hHeld ?_; simp only [pqZ]
     refine tkI 4 25 rfl (by intro w hSw; obtain ⟨x0, x1, x2⟩ := (HXB.out _ hSw).got; go_simp <;> with_reducible rfl) hHeld ?_; simp only [pqZ]
     refine tkO 5 26 rfl (by kernel_rfl) (by rfl) hHeld ?_; simp only [pqZ]
     refine tkO 6 27 rfl (by kernel_rfl) (by rfl) hHeld ?_; simp only [pqZ]
     refine tkO 7 28 rfl (by kernel_rfl) (by rfl) hHeld ?_; simp only [pqZ]
     refine tkO 8 29 rfl (by kernel_rfl) (by rfl) hHeld ?_; simp only [pqZ]
     refine tkO 9 30 rfl (by kernel_rfl) (by rfl) hHeld ?_; simp only [pqZ]
     refine tkO 10 31 rfl (by kernel_rfl) (by rfl) hHeld ?_; simp only [pqZ]
     refine tkO 11 32 rfl (by kernel_rfl) (by rfl) hHeld ?_; simp only [pqZ]
     refine tkO 12 33 rfl (by kernel_rfl) (by rfl) hHeld ?_; simp only [pqZ]
     refine tkI 13 34 rfl (by intro w hSw; obtain ⟨x0, x1, x2⟩ := (HXB.out _ hSw).got; go_simp <;> with_reducible rfl) hHeld ?_; simp only [pqZ]
     refine wpAnyH_done (by kernel_rfl) ?_ _
     rcases hO0.2 with ⟨h0, h1⟩ | ⟨g', cap', cur', h0, _, _, h3, h4, _⟩
     ·injection h0 with e1 e2 e3
      subst e1; subst e3
      have hrn : l = [] := List.eq_nil_of_length_eq_zero h1
      subst hrn
      simp only [List.length_nil] at *
      have HS1 : Hid (∀ V, Below wr.heap.size wr V → Sl V none (rc Ax.cells (([] : List Ax).take 0))) := Lib.hid fun V hV => by rw [← rc_take Ax.len]; exact (Sl.of_own (HO.out V hV)).take _
      have hlt1 : (rc Ax.cells (([] : List Ax).take 0)).length = 0 * 3 := by rw [rc_length Ax.len, List.length_take, Nat.min_eq_left (by omega)]
      have HL1 := Lib.hid hlt1
      clear hlt1
      go_wp2_with (first
       | (at_builtin; refine wpList_app rfl (.tmp 37) (.tmp 40) rfl EAx rfl rfl (own_nil _ _ _) (m := 0) (news := rc Ax.cells (([] : List Ax).take 0)) HL1.out (HS1.out _ hHeld) (rc_one Ax.one _) (by unfold maxLen; omega) (by omega) (Nat.le_refl _) ?_; intro A2 c2 w3 hown2 hg2 hb2; simp only [Nat.zero_add, List.nil_append] at hown2; obtain ⟨x0, x1, x2⟩ := (HXB.out _ (hHeld.trans (hb2.mono hHeld.size))).got)
       | (at_builtin; refine wpList_app rfl (.tmp 42) (.tmp 44) rfl EAx rfl rfl (hown2.alloc _) (m := 1) (news := x.cells) rfl (Sl.new_ _ _ _) (Ax.one _) (by unfold maxLen; omega) (by omega) (by have h1 := hb2.size; simp only [World.size_alloc, World.size_drew] at h1 ⊢; omega) ?_; intro A3 c3 w4 hown3 hg3 hb3)
       | (at_builtin; refine wpList_app rfl (.tmp 46) (.tmp 49) rfl EAx rfl rfl hown3 (m := 0) (news := []) rfl Sl.nil (by intro u hu; cases hu) (by unfold maxLen; omega) (by omega) (by have h1 := hb2.size; have h2 := hb3.size; simp only [World.size_alloc, World.size_drew] at h1 h2 ⊢; omega) ?_; intro A4 c4 w5 hown4 hg4 hb4)
       | fail)
      have hBf := hB2.trans ((hHeld.mono (Nat.le_of_lt hxl)).trans ((hb2.trans (((Below.refl _ _).alloc hb2.size _).trans (hb3.trans hb4))).mono (Nat.le_trans (Nat.le_of_lt hxl) hHeld.size)))
      have hown5 := own_base hown4 (Nat.le_trans (Nat.le_of_lt hxl) hHeld.size)
      go_ret2
      refine ⟨⟨A4, c4, ?_, ?_⟩, hBf⟩
      ·rw [HE.out]
       have e : (([] : List Ax).take 0 ++ x :: ([] : List Ax).drop 0).length = 0 + 1 + 0 := by rw [hdr]; simp
       simp only [e]; rfl
      ·rw [HE.out]
       have e : (([] : List Ax).take 0 ++ x :: ([] : List Ax).drop 0).length = 0 + 1 + 0 := by rw [hdr]; simp
       simp only [e]
       rw [rc_append, rc_cons, hdr, ← List.append_assoc]
       exact hown5
     ·injection h0 with e1 e2 e3
      subst e1; subst e3
      unfold maxLen at h4
      by_cases hcr : cap = l.length
      ·subst hcr
       have HS1 : Hid (∀ V, Below wr.heap.size wr V → Sl V (some ⟨g', 0, none⟩) (rc Ax.cells (l.take l.length))) := Lib.hid fun V hV => by rw [← rc_take Ax.len]; exact (Sl.of_own (HO.out V hV)).take _
       have hlt1 : (rc Ax.cells (l.take l.length)).length = l.length * 3 := by rw [rc_length Ax.len, List.length_take, Nat.min_eq_left (by omega)]
       have HL1 := Lib.hid hlt1
       clear hlt1
       go_wp2_with (first
        | (at_builtin; refine wpList_app rfl (.tmp 37) (.tmp 40) rfl EAx rfl rfl (own_nil _ _ _) (m := l.length) (news := rc Ax.cells (l.take l.length)) HL1.out (HS1.out _ hHeld) (rc_one Ax.one _) (by unfold maxLen; omega) (by omega) (Nat.le_refl _) ?_; intro A2 c2 w3 hown2 hg2 hb2; simp only [Nat.zero_add, List.nil_append] at hown2; obtain ⟨x0, x1, x2⟩ := (HXB.out _ (hHeld.trans (hb2.mono hHeld.size))).got)
        | (at_builtin; refine wpList_app rfl (.tmp 42) (.tmp 44) rfl EAx rfl rfl (hown2.alloc _) (m := 1) (news := x.cells) rfl (Sl.new_ _ _ _) (Ax.one _) (by unfold maxLen; omega) (by omega) (by have h1 := hb2.size; simp only [World.size_alloc, World.size_drew] at h1 ⊢; omega) ?_; intro A3 c3 w4 hown3 hg3 hb3)
        | (at_builtin; refine wpList_app rfl (.tmp 46) (.tmp 49) rfl EAx rfl rfl hown3 (m := 0) (news := []) rfl Sl.nil (by intro u hu; cases hu) (by unfold maxLen; omega) (by omega) (by have h1 := hb2.size; have h2 := hb3.size; simp only [World.size_alloc, World.size_drew] at h1 h2 ⊢; omega) ?_; intro A4 c4 w5 hown4 hg4 hb4)
        | fail)
       have hBf := hB2.trans ((hHeld.mono (Nat.le_of_lt hxl)).trans ((hb2.trans (((Below.refl _ _).alloc hb2.size _).trans (hb3.trans hb4))).mono (Nat.le_trans (Nat.le_of_lt hxl) hHeld.size)))
       have hown5 := own_base hown4 (Nat.le_trans (Nat.le_of_lt hxl) hHeld.size)
       go_ret2
       refine ⟨⟨A4, c4, ?_, ?_⟩, hBf⟩
       ·rw [HE.out]
        have e : (l.take l.length ++ x :: l.drop l.length).length = l.length + 1 + 0 := by rw [hdr]; simp
        simp only [e]; rfl
       ·rw [HE.out]
        have e : (l.take l.length ++ x :: l.drop l.length).length = l.length + 1 + 0 := by rw [hdr]; simp
        simp only [e]
        rw [rc_append, rc_cons, hdr, ← List.append_assoc]
        exact hown5
      ·have hck : ¬ (cap = l.length) := hcr
       have HS1 : Hid (∀ V, Below wr.heap.size wr V → Sl V (some ⟨g', 0, none⟩) (rc Ax.cells (l.take l.length))) := Lib.hid fun V hV => by rw [← rc_take Ax.len]; exact (Sl.of_own (HO.out V hV)).take _
       have hlt1 : (rc Ax.cells (l.take l.length)).length = l.length * 3 := by rw [rc_length Ax.len, List.length_take, Nat.min_eq_left (by omega)]
       have HL1 := Lib.hid hlt1
       clear hlt1
       go_wp2_with (first
        | (at_builtin; refine wpList_app rfl (.tmp 37) (.tmp 40) rfl EAx rfl rfl (own_nil _ _ _) (m := l.length) (news := rc Ax.cells (l.take l.length)) HL1.out (HS1.out _ hHeld) (rc_one Ax.one _) (by unfold maxLen; omega) (by omega) (Nat.le_refl _) ?_; intro A2 c2 w3 hown2 hg2 hb2; simp only [Nat.zero_add, List.nil_append] at hown2; obtain ⟨x0, x1, x2⟩ := (HXB.out _ (hHeld.trans (hb2.mono hHeld.size))).got)
        | (at_builtin; refine wpList_app rfl (.tmp 42) (.tmp 44) rfl EAx rfl rfl (hown2.alloc _) (m := 1) (news := x.cells) rfl (Sl.new_ _ _ _) (Ax.one _) (by unfold maxLen; omega) (by omega) (by have h1 := hb2.size; simp only [World.size_alloc, World.size_drew] at h1 ⊢; omega) ?_; intro A3 c3 w4 hown3 hg3 hb3)
        | (at_builtin; refine wpList_app rfl (.tmp 46) (.tmp 49) rfl EAx rfl rfl hown3 (m := 0) (news := []) rfl Sl.nil (by intro u hu; cases hu) (by unfold maxLen; omega) (by omega) (by have h1 := hb2.size; have h2 := hb3.size; simp only [World.size_alloc, World.size_drew] at h1 h2 ⊢; omega) ?_; intro A4 c4 w5 hown4 hg4 hb4)
        | fail)
       have hBf := hB2.trans ((hHeld.mono (Nat.le_of_lt hxl)).trans ((hb2.trans (((Below.refl _ _).alloc hb2.size _).trans (hb3.trans hb4))).mono (Nat.le_trans (Nat.le_of_lt hxl) hHeld.size)))
       have hown5 := own_base hown4 (Nat.le_trans (Nat.le_of_lt hxl) hHeld.size)
       go_ret2
       refine ⟨⟨A4, c4, ?_, ?_⟩, hBf⟩
       ·rw [HE.out]
        have e : (l.take l.length ++ x :: l.drop l.length).length = l.length + 1 + 0 := by rw [hdr]; simp
        simp only [e]; rfl
       ·rw [HE.out]
        have e : (l.take l.length ++ x :: l.drop l.length).length = l.length + 1 + 0 := by rw [hdr]; simp
        simp only [e]
        rw [rc_append, rc_cons, hdr, ← List.append_assoc]
        exact hown5
  ·have HR : Hid (putMR l x = (12, [])) := Lib.hid (by rw [putMR, if_neg (by simpa using hok), if_pos hh])
   have HH := Lib.hid hh
   clear hok hh hat hfk hid hbefore hsd
   unfold Ax.val at HIS ⊢
   go_enter Tryz.func41, Tryz.ntmps41
   go_wp2_with fail
   refine (HIS.out _).mono ?_
   rintro e w1 ⟨rfl, hb1⟩
   have hB1 := since_step hB0 hb1
   have hx1 := hx0.below hb1
   have hown1 := own_below hown0 hb1
   obtain ⟨x0, x1, x2⟩ := hx1.got
   clear hb1
   rw [HI.out]
   go_wp2_with fail
   refine (HFD.out _ (Sl.of_own hown1)).mono ?_
   rintro e w2 ⟨rfl, hb2⟩
   have hB2' := since_step hB1 hb2
   have hx2 := hx1.below hb2
   have hown2' := own_below hown1 hb2
   clear x0 x1 x2 hb2 hown1 hx1 hx0 hown0
   rw [HH.out]
   generalize findM l x.id = fm
   unfold Ax.val
   have hB1 := since_alloc hB2' (.cells fm.cells.toArray 63)
   have hx1 := hx2.below ((Below.refl _ _).alloc (Nat.le_refl _) (.cells fm.cells.toArray 63))
   have hown := hown2'.alloc (.cells fm.cells.toArray 63)
   have hcs := @cell_set
   clear hB2' hx2 hown2'
   go_wp2_with fail
   go_ret2
   rw [HR.out]
   exact ⟨MRes.nil _ _ _, hB1⟩
end
end Go.Proofs.YtmjndpkfhdoljaaGreat
