/-
  Layer 14, sixth part: the document's Set, Table (laid by gen_memb6.py).
-/
import Derived.Test.YtniapgcohihkhaaMemb5
namespace Go.Proofs.Ytniapgcohihkhaa
open Go.ChangeShapes Go.WideShapes Go.ChangeAt Go.RowKit
set_option linter.unusedVariables false
set_option linter.unusedSimpArgs false

def mapL (l : List Mb) (x : Mb) : List Mb := l.map fun y => if idM x.id y = true then x else y
theorem mapL_len (l : List Mb) (x : Mb) : (mapL l x).length = l.length := by simp [mapL]
theorem mapL_snoc (l : List Mb) (x : Mb) (k : Nat) (h : k < l.length) : mapL (l.take (k + 1)) x = mapL (l.take k) x ++ [if idM x.id l[k] = true then x else l[k]] := by
  unfold mapL
  rw [take_snoc l k h, List.map_append]
  rfl
def SetRel (l : List Mb) (x : Mb) (W1 : World) (out i : Value) (wr : World) : Prop :=
  ∃ (k : Nat) (A' : Option Addr) (c' : Nat), k ≤ l.length ∧ i = .int .i64 k ∧ out = .slice A' k c' ∧ wr.ownsRow W1.heap.size 24 4 (.slice A' k c') k (rc Mb.cells (mapL (l.take k) x)) ∧ Below W1.heap.size W1 wr

set_option maxHeartbeats 8000000 in
set_option maxRecDepth 100000 in
theorem rsetm_any (B0 : Nat) (A : Option Addr) (cap : Nat) (l : List Mb) (x : Mb) (w : World) (hl : l.length ≤ 900000) (hown : w.ownsRow B0 24 4 (.slice A l.length cap) l.length (rc Mb.cells l)) (hsd : Sorted l) :
    Calls Try.prog 16 #[.slice A l.length cap, x.val] w fun e w' => MRes w.heap.size w' e (setMR l x) ∧ Below w.heap.size w w' := by
  have hB0 := since_alloc (Below.refl _ w) (.cells x.cells.toArray 24)
  have hx0 := Mb.Bx.new w x
  have hown0 := hown.alloc (.cells x.cells.toArray 24)
  have HIS := Lib.hid (fun W => mis_any x W)
  have HFD := Lib.hid (fun W h => rfindm_any A cap l x.id W (by omega) h)
  clear hown
  by_cases hok : okM x
  rotate_left
  · have HI : Hid (decide (okM x) = false) := Lib.hid (decide_eq_false hok)
    have HR : Hid ((setMR l x) = (2, [])) := Lib.hid (by rw [setMR, if_pos hok])
    clear hok
    unfold Mb.val at HIS ⊢
    go_enter Try.func16, Try.ntmps16
    go_wp2_with fail
    refine (HIS.out _).mono ?_
    rintro e w1 ⟨rfl, hb1⟩
    have hB1 := since_step hB0 hb1
    rw [HI.out]
    go_wp2_with fail
    go_ret2
    rw [HR.out]
    exact ⟨MRes.nil _ _ _, hB1⟩
  · have HI : Hid (decide (okM x) = true) := Lib.hid (decide_eq_true hok)
    rcases mfind_cases l x.id with ⟨hh, hat, hfz, hfn⟩ | ⟨kk, hkk, hh, hat, hfk, hid, hbefore⟩
    · have HR : Hid (setMR l x = (11, [])) := Lib.hid (by rw [setMR, if_neg (by simpa using hok), if_neg (by rw [hh]; decide)])
      have HH := Lib.hid hh
      clear hok hh hat hfz hfn hsd
      unfold Mb.val at HIS ⊢
      go_enter Try.func16, Try.ntmps16
      go_wp2_with fail
      refine (HIS.out _).mono ?_
      rintro e w1 ⟨rfl, hb1⟩
      have hB1 := since_step hB0 hb1
      have hx1 := hx0.below hb1
      have hown1 := own_below hown0 hb1
      obtain ⟨x0, x1, x2, x3⟩ := hx1.got
      clear hb1
      rw [HI.out]
      go_wp2_with fail
      refine (HFD.out _ (Sl.of_own hown1)).mono ?_
      rintro e w2 ⟨rfl, hb2⟩
      have hB2' := since_step hB1 hb2
      have hx2 := hx1.below hb2
      have hown2' := own_below hown1 hb2
      clear x0 x1 x2 x3 hb2 hown1 hx1 hx0 hown0
      rw [HH.out]
      generalize findM l x.id = fm
      unfold Mb.val
      have hB1 := since_alloc hB2' (.cells fm.cells.toArray 24)
      have hx1 := hx2.below ((Below.refl _ _).alloc (Nat.le_refl _) (.cells fm.cells.toArray 24))
      have hown := hown2'.alloc (.cells fm.cells.toArray 24)
      have hcs := @cell_set
      clear hB2' hx2 hown2'
      go_wp2_with fail
      go_ret2
      rw [HR.out]
      exact ⟨MRes.nil _ _ _, hB1⟩
    · have HR : Hid (setMR l x = (0, mapL l x)) := Lib.hid (by rw [setMR, if_neg (by simpa using hok), if_pos hh, hat, mapL, mapM hsd x hkk hid]; rfl)
      have HH := Lib.hid hh
      clear hok hh hat hfk hid hbefore hsd
      unfold Mb.val at HIS ⊢
      go_enter Try.func16, Try.ntmps16
      go_wp2_with fail
      refine (HIS.out _).mono ?_
      rintro e w1 ⟨rfl, hb1⟩
      have hB1 := since_step hB0 hb1
      have hx1 := hx0.below hb1
      have hown1 := own_below hown0 hb1
      obtain ⟨x0, x1, x2, x3⟩ := hx1.got
      clear hb1
      rw [HI.out]
      go_wp2_with fail
      refine (HFD.out _ (Sl.of_own hown1)).mono ?_
      rintro e w2 ⟨rfl, hb2⟩
      have hB2' := since_step hB1 hb2
      have hx2 := hx1.below hb2
      have hown2' := own_below hown1 hb2
      clear x0 x1 x2 x3 hb2 hown1 hx1 hx0 hown0
      rw [HH.out]
      generalize findM l x.id = fm
      unfold Mb.val
      have hB1 := since_alloc hB2' (.cells fm.cells.toArray 24)
      have hx1 := hx2.below ((Below.refl _ _).alloc (Nat.le_refl _) (.cells fm.cells.toArray 24))
      have hown := hown2'.alloc (.cells fm.cells.toArray 24)
      have hcs := @cell_set
      clear hB2' hx2 hown2'
      go_upto_region 6 with fail
      unfold Mb.cells at hB1 hx1 hown
      generalize hWW : w2.alloc (.cells #[.int .i64 fm.id, .int .i64 fm.room, .int .i64 fm.phase, .int .i64 fm.til] 24) = W1 at *
      clear hWW
      go_wp2_with fail
      go_loopw [8, 9] (fun out i wr => SetRel l x W1 out i wr) (fun _ i _ => l.length - (intOf i).toNat)
      case atStart => exact ⟨0, none, 0, by omega, rfl, rfl, own_nil _ _ _, Below.refl _ _⟩
      case round =>
        obtain ⟨k, A', c', hk, rfl, rfl, hout, hB⟩ := hrel
        have hB2 : Below w.heap.size w wr := since_step hB1 hB
        have hsz : W1.heap.size ≤ wr.heap.size := hB.size
        by_cases hlt : k < l.length
        · have HXB : Hid (∀ V, Below wr.heap.size wr V → Mb.Bx V w.heap.size x) := Lib.hid fun V hV => (hx1.below hB).below hV
          have HO : Hid (∀ V, Below wr.heap.size wr V → V.ownsRow W1.heap.size 24 4 (.slice A' k c') k (rc Mb.cells (mapL (l.take k) x))) := Lib.hid fun V hV => own_below hout hV
          obtain ⟨b, o, rfl, hbw, hg⟩ := (Sl.of_own (own_below hown hB)).mb hlt
          have HK1 : Hid (∀ V, Below wr.heap.size wr V → l[k].at V b (o + k * 4)) := Lib.hid fun V hV => Mb.at_keep (w := wr) hg fun i => hV.cell (p := ⟨b, i, none⟩) hbw
          have hlk : (k : Int) < (l.length : Int) := by omega
          have hqq : (mapL (l.take k) x).length = k := by rw [mapL_len, List.length_take]; omega
          have HSN := Lib.hid (mapL_snoc l x k hlt)
          clear hown hx1 hg hbw hout hqq
          generalize l[k] = v at HK1 HSN
          obtain ⟨vid, vr, vp, vt⟩ := v
          unfold Mb.at at HK1
          simp only at HK1
          by_cases hq : vid = x.id
          · have HE : Hid (mapL (l.take (k + 1)) x = mapL (l.take k) x ++ [x]) := Lib.hid (by rw [HSN.out, if_pos (by rw [idM_iff]; exact hq)])
            have hqb : (vid == x.id) = true := by simpa using hq
            clear HSN hq
            generalize mapL (l.take k) x = q at HO HE
            go_wp2_with fail
            refine wp_region_held_drew (S := (fun V => Below wr.heap.size wr V)) (by kernel_rfl) (by exact (Below.refl _ _).drew) (fun hHeld => ?_)
            refine wpAnyH_take (i := 0) (oi := { dst := some 28, op := _, type := _, pos := _, after := _, guard := _ }) (v := ?_) rfl (by kernel_rfl) (by kernel_rfl) (by kernel_rfl) (fun _ _ _ h => h) (Or.inl ⟨by rfl, ?_⟩) hHeld ?_
            rotate_left
            · (intro w hSw; obtain ⟨g0, g1, g2, g3⟩ := HK1.out _ hSw; obtain ⟨x0, x1, x2, x3⟩ := (HXB.out _ hSw).got; go_simp <;> with_reducible rfl)
            try simp only [Act.put, List.setIfInBounds_toArray, List.set_cons_zero, List.set_cons_succ]
            refine wpAnyH_take (i := 1) (oi := { dst := some 29, op := _, type := _, pos := _, after := _, guard := _ }) (v := ?_) rfl (by kernel_rfl) (by kernel_rfl) (by kernel_rfl) (fun _ _ _ h => h) (Or.inl ⟨by rfl, ?_⟩) hHeld ?_
            rotate_left
            · (intro w hSw; obtain ⟨g0, g1, g2, g3⟩ := HK1.out _ hSw; obtain ⟨x0, x1, x2, x3⟩ := (HXB.out _ hSw).got; go_simp <;> with_reducible rfl)
            try simp only [Act.put, List.setIfInBounds_toArray, List.set_cons_zero, List.set_cons_succ]
            refine wpAnyH_take (i := 2) (oi := { dst := some 30, op := _, type := _, pos := _, after := _, guard := _ }) (v := ?_) rfl (by kernel_rfl) (by kernel_rfl) (by kernel_rfl) (fun _ _ _ h => h) (Or.inl ⟨by rfl, ?_⟩) hHeld ?_
            rotate_left
            · (intro w hSw; obtain ⟨g0, g1, g2, g3⟩ := HK1.out _ hSw; obtain ⟨x0, x1, x2, x3⟩ := (HXB.out _ hSw).got; go_simp <;> with_reducible rfl)
            try simp only [Act.put, List.setIfInBounds_toArray, List.set_cons_zero, List.set_cons_succ]
            refine wpAnyH_take (i := 3) (oi := { dst := some 31, op := _, type := _, pos := _, after := _, guard := _ }) (v := ?_) rfl (by kernel_rfl) (by kernel_rfl) (by kernel_rfl) (fun _ _ _ h => h) (Or.inl ⟨by rfl, ?_⟩) hHeld ?_
            rotate_left
            · (intro w hSw; obtain ⟨g0, g1, g2, g3⟩ := HK1.out _ hSw; obtain ⟨x0, x1, x2, x3⟩ := (HXB.out _ hSw).got; go_simp <;> with_reducible rfl)
            try simp only [Act.put, List.setIfInBounds_toArray, List.set_cons_zero, List.set_cons_succ]
            refine wpAnyH_take (i := 4) (oi := { dst := some 32, op := _, type := _, pos := _, after := _, guard := _ }) (v := ?_) rfl (by kernel_rfl) (by kernel_rfl) (by kernel_rfl) (fun _ _ _ h => h) (Or.inl ⟨by rfl, ?_⟩) hHeld ?_
            rotate_left
            · (intro w hSw; obtain ⟨g0, g1, g2, g3⟩ := HK1.out _ hSw; obtain ⟨x0, x1, x2, x3⟩ := (HXB.out _ hSw).got; go_simp <;> with_reducible rfl)
            try simp only [Act.put, List.setIfInBounds_toArray, List.set_cons_zero, List.set_cons_succ]
            refine wpAnyH_take (i := 5) (oi := { dst := some 33, op := _, type := _, pos := _, after := _, guard := _ }) (v := ?_) rfl (by kernel_rfl) (by kernel_rfl) (by kernel_rfl) (fun _ _ _ h => h) (Or.inl ⟨by rfl, ?_⟩) hHeld ?_
            rotate_left
            · (intro w hSw; obtain ⟨g0, g1, g2, g3⟩ := HK1.out _ hSw; obtain ⟨x0, x1, x2, x3⟩ := (HXB.out _ hSw).got; go_simp <;> with_reducible rfl)
            try simp only [Act.put, List.setIfInBounds_toArray, List.set_cons_zero, List.set_cons_succ]
            refine wpAnyH_take (i := 6) (oi := { dst := some 34, op := _, type := _, pos := _, after := _, guard := _ }) (v := ?_) rfl (by kernel_rfl) (by kernel_rfl) (by kernel_rfl) (fun _ _ _ h => h) (Or.inl ⟨by rfl, ?_⟩) hHeld ?_
            rotate_left
            · (intro w hSw; obtain ⟨g0, g1, g2, g3⟩ := HK1.out _ hSw; obtain ⟨x0, x1, x2, x3⟩ := (HXB.out _ hSw).got; go_simp <;> with_reducible rfl)
            try simp only [Act.put, List.setIfInBounds_toArray, List.set_cons_zero, List.set_cons_succ]
            refine wpAnyH_take (i := 7) (oi := { dst := some 35, op := _, type := _, pos := _, after := _, guard := _ }) (v := ?_) rfl (by kernel_rfl) (by kernel_rfl) (by kernel_rfl) (fun _ _ _ h => h) (Or.inl ⟨by rfl, ?_⟩) hHeld ?_
            rotate_left
            · (intro w hSw; obtain ⟨g0, g1, g2, g3⟩ := HK1.out _ hSw; obtain ⟨x0, x1, x2, x3⟩ := (HXB.out _ hSw).got; go_simp <;> with_reducible rfl)
            try simp only [Act.put, List.setIfInBounds_toArray, List.set_cons_zero, List.set_cons_succ]
            refine wpAnyH_done (by kernel_rfl) ?_ _
            have hO2 := HO.out _ hHeld
            have hB3 := hB.trans (hHeld.mono hsz)
            obtain ⟨g0, g1, g2, g3⟩ := HK1.out _ hHeld
            obtain ⟨x0, x1, x2, x3⟩ := (HXB.out _ hHeld).got
            go_wp2_with (first
              | (at_builtin; refine wpList_app rfl (.tmp 36) (.tmp 38) rfl EMb rfl rfl (hO2.alloc _) (m := 1) (news := (x : Mb).cells) rfl (Sl.new_ _ _ _) (Mb.one _) (by unfold maxLen; omega) (by omega) (by have h1 := hHeld.size; simp only [World.size_alloc, World.size_drew] at h1 ⊢; omega) ?_; intro A2 c2 w3 hown2 hg2 hb2)
              | fail)
            go_roundw
            case rel =>
              refine ⟨k + 1, A2, c2, by omega, by go_num, rfl, ?_, ?_⟩
              · rw [HE.out, rc_append]
                simpa [rc] using hown2
              · exact (hB3.alloc (by have h1 := hHeld.size; simp only [World.size_drew] at h1 ⊢; omega) _).trans hb2
            case measure => simp [intOf]; omega
          · have HE : Hid (mapL (l.take (k + 1)) x = mapL (l.take k) x ++ [⟨vid, vr, vp, vt⟩]) := Lib.hid (by rw [HSN.out, if_neg (by rw [idM_iff]; exact hq)])
            have hqb : (vid == x.id) = false := by simpa using hq
            clear HSN hq
            generalize mapL (l.take k) x = q at HO HE
            go_wp2_with fail
            refine wp_region_held_drew (S := (fun V => Below wr.heap.size wr V)) (by kernel_rfl) (by exact (Below.refl _ _).drew) (fun hHeld => ?_)
            refine wpAnyH_take (i := 0) (oi := { dst := some 28, op := _, type := _, pos := _, after := _, guard := _ }) (v := ?_) rfl (by kernel_rfl) (by kernel_rfl) (by kernel_rfl) (fun _ _ _ h => h) (Or.inl ⟨by rfl, ?_⟩) hHeld ?_
            rotate_left
            · (intro w hSw; obtain ⟨g0, g1, g2, g3⟩ := HK1.out _ hSw; obtain ⟨x0, x1, x2, x3⟩ := (HXB.out _ hSw).got; go_simp <;> with_reducible rfl)
            try simp only [Act.put, List.setIfInBounds_toArray, List.set_cons_zero, List.set_cons_succ]
            refine wpAnyH_take (i := 1) (oi := { dst := some 29, op := _, type := _, pos := _, after := _, guard := _ }) (v := ?_) rfl (by kernel_rfl) (by kernel_rfl) (by kernel_rfl) (fun _ _ _ h => h) (Or.inl ⟨by rfl, ?_⟩) hHeld ?_
            rotate_left
            · (intro w hSw; obtain ⟨g0, g1, g2, g3⟩ := HK1.out _ hSw; obtain ⟨x0, x1, x2, x3⟩ := (HXB.out _ hSw).got; go_simp <;> with_reducible rfl)
            try simp only [Act.put, List.setIfInBounds_toArray, List.set_cons_zero, List.set_cons_succ]
            refine wpAnyH_take (i := 2) (oi := { dst := some 30, op := _, type := _, pos := _, after := _, guard := _ }) (v := ?_) rfl (by kernel_rfl) (by kernel_rfl) (by kernel_rfl) (fun _ _ _ h => h) (Or.inl ⟨by rfl, ?_⟩) hHeld ?_
            rotate_left
            · (intro w hSw; obtain ⟨g0, g1, g2, g3⟩ := HK1.out _ hSw; obtain ⟨x0, x1, x2, x3⟩ := (HXB.out _ hSw).got; go_simp <;> with_reducible rfl)
            try simp only [Act.put, List.setIfInBounds_toArray, List.set_cons_zero, List.set_cons_succ]
            refine wpAnyH_take (i := 3) (oi := { dst := some 31, op := _, type := _, pos := _, after := _, guard := _ }) (v := ?_) rfl (by kernel_rfl) (by kernel_rfl) (by kernel_rfl) (fun _ _ _ h => h) (Or.inl ⟨by rfl, ?_⟩) hHeld ?_
            rotate_left
            · (intro w hSw; obtain ⟨g0, g1, g2, g3⟩ := HK1.out _ hSw; obtain ⟨x0, x1, x2, x3⟩ := (HXB.out _ hSw).got; go_simp <;> with_reducible rfl)
            try simp only [Act.put, List.setIfInBounds_toArray, List.set_cons_zero, List.set_cons_succ]
            refine wpAnyH_take (i := 4) (oi := { dst := some 32, op := _, type := _, pos := _, after := _, guard := _ }) (v := ?_) rfl (by kernel_rfl) (by kernel_rfl) (by kernel_rfl) (fun _ _ _ h => h) (Or.inl ⟨by rfl, ?_⟩) hHeld ?_
            rotate_left
            · (intro w hSw; obtain ⟨g0, g1, g2, g3⟩ := HK1.out _ hSw; obtain ⟨x0, x1, x2, x3⟩ := (HXB.out _ hSw).got; go_simp <;> with_reducible rfl)
            try simp only [Act.put, List.setIfInBounds_toArray, List.set_cons_zero, List.set_cons_succ]
            refine wpAnyH_take (i := 5) (oi := { dst := some 33, op := _, type := _, pos := _, after := _, guard := _ }) (v := ?_) rfl (by kernel_rfl) (by kernel_rfl) (by kernel_rfl) (fun _ _ _ h => h) (Or.inl ⟨by rfl, ?_⟩) hHeld ?_
            rotate_left
            · (intro w hSw; obtain ⟨g0, g1, g2, g3⟩ := HK1.out _ hSw; obtain ⟨x0, x1, x2, x3⟩ := (HXB.out _ hSw).got; go_simp <;> with_reducible rfl)
            try simp only [Act.put, List.setIfInBounds_toArray, List.set_cons_zero, List.set_cons_succ]
            refine wpAnyH_take (i := 6) (oi := { dst := some 34, op := _, type := _, pos := _, after := _, guard := _ }) (v := ?_) rfl (by kernel_rfl) (by kernel_rfl) (by kernel_rfl) (fun _ _ _ h => h) (Or.inl ⟨by rfl, ?_⟩) hHeld ?_
            rotate_left
            · (intro w hSw; obtain ⟨g0, g1, g2, g3⟩ := HK1.out _ hSw; obtain ⟨x0, x1, x2, x3⟩ := (HXB.out _ hSw).got; go_simp <;> with_reducible rfl)
            try simp only [Act.put, List.setIfInBounds_toArray, List.set_cons_zero, List.set_cons_succ]
            refine wpAnyH_take (i := 7) (oi := { dst := some 35, op := _, type := _, pos := _, after := _, guard := _ }) (v := ?_) rfl (by kernel_rfl) (by kernel_rfl) (by kernel_rfl) (fun _ _ _ h => h) (Or.inl ⟨by rfl, ?_⟩) hHeld ?_
            rotate_left
            · (intro w hSw; obtain ⟨g0, g1, g2, g3⟩ := HK1.out _ hSw; obtain ⟨x0, x1, x2, x3⟩ := (HXB.out _ hSw).got; go_simp <;> with_reducible rfl)
            try simp only [Act.put, List.setIfInBounds_toArray, List.set_cons_zero, List.set_cons_succ]
            refine wpAnyH_done (by kernel_rfl) ?_ _
            have hO2 := HO.out _ hHeld
            have hB3 := hB.trans (hHeld.mono hsz)
            obtain ⟨g0, g1, g2, g3⟩ := HK1.out _ hHeld
            obtain ⟨x0, x1, x2, x3⟩ := (HXB.out _ hHeld).got
            go_wp2_with (first
              | (at_builtin; refine wpList_app rfl (.tmp 40) (.tmp 45) rfl EMb rfl rfl (hO2.alloc _) (m := 1) (news := (⟨vid, vr, vp, vt⟩ : Mb).cells) rfl (Sl.new_ _ _ _) (Mb.one _) (by unfold maxLen; omega) (by omega) (by have h1 := hHeld.size; simp only [World.size_alloc, World.size_drew] at h1 ⊢; omega) ?_; intro A2 c2 w3 hown2 hg2 hb2)
              | fail)
            go_roundw
            case rel =>
              refine ⟨k + 1, A2, c2, by omega, by go_num, rfl, ?_, ?_⟩
              · rw [HE.out, rc_append]
                simpa [rc] using hown2
              · exact (hB3.alloc (by have h1 := hHeld.size; simp only [World.size_drew] at h1 ⊢; omega) _).trans hb2
            case measure => simp [intOf]; omega
        · obtain rfl : k = l.length := by omega
          rw [List.take_length] at hout
          have hown5 := own_base hout hB1.size
          clear hown
          go_wp2_with fail
          go_ret2
          rw [HR.out]
          refine ⟨⟨A', c', ?_, ?_⟩, hB2⟩
          · simp only [mapL_len]; rfl
          · simp only [mapL_len]; exact hown5

def TabRel (n : Nat) (w : World) (out i : Value) (wr : World) : Prop :=
  ∃ (k : Nat) (R : List Mb) (A' : Option Addr) (c' : Nat), k ≤ n ∧ k ≤ 10 ∧ i = .int .i64 k ∧ out = .slice A' R.length c' ∧ wr.ownsRow w.heap.size 24 4 (.slice A' R.length c') R.length (rc Mb.cells R) ∧ Sorted R ∧ R.length ≤ k ∧ Below w.heap.size w wr
def TabRes (w w' : World) (e : Ending) : Prop :=
  ∃ (R : List Mb) (A' : Option Addr) (c' : Nat), e = .returned (.slice A' R.length c') ∧ w'.ownsRow w.heap.size 24 4 (.slice A' R.length c') R.length (rc Mb.cells R) ∧ Sorted R ∧ R.length ≤ 10
set_option maxHeartbeats 4000000 in
set_option maxRecDepth 100000 in
theorem rtable_any (A : Option Addr) (cap : Nat) (l : List Mb) (w : World) (hs : Sl w A (rc Mb.cells l)) :
    Calls Try.prog 12 #[.slice A l.length cap] w fun e w' => TabRes w w' e ∧ Below w.heap.size w w' := by
  go_enter Try.func12, Try.ntmps12
  go_wp2_with fail
  go_loopw [3, 4] (fun out i wr => TabRel l.length w out i wr) (fun _ i _ => l.length - (intOf i).toNat)
  case atStart => exact ⟨0, [], none, 0, by omega, by omega, rfl, rfl, own_nil _ _ _, List.Pairwise.nil, by simp, Below.refl _ _⟩
  case round =>
    obtain ⟨k, R, A', c', hk, hk10, rfl, rfl, hown, hsd, hRk, hB⟩ := hrel
    by_cases hgo : k < l.length ∧ k < 10
    · obtain ⟨hlt, hlt10⟩ := hgo
      obtain ⟨b, o, rfl, hbw, hg⟩ := hs.mb hlt
      have hg1 : l[k].at wr b (o + k * 4) := Mb.at_keep (w := w) hg fun i => hB.cell (p := ⟨b, i, none⟩) hbw
      have hlk : (k : Int) < (l.length : Int) := by omega
      have hlk10 : (k : Int) < 10 := by omega
      have HPT := Lib.hid (rputm_any w.heap.size A' c' R l[k] wr (by omega) hown hsd)
      have HSD := Lib.hid hsd
      have hcase : (putMR R l[k] = (0, putR ahM R l[k])) ∨ ∃ n, n ≠ 0 ∧ putMR R l[k] = (n, []) := by
        unfold putMR
        split
        · exact .inr ⟨2, by decide, rfl⟩
        · split
          · exact .inr ⟨12, by decide, rfl⟩
          · exact .inl rfl
      clear hg hs hbw hsd
      generalize l[k] = v at *
      rcases hcase with hR | ⟨n, hn, hR⟩
      all_goals
        rw [hR] at HPT
        have HR := Lib.hid hR
        clear hR
        obtain ⟨g0, g1, g2, g3⟩ := _root_.id hg1
        unfold Mb.val at HPT
      · go_wp2_with fail
        refine HPT.out.mono ?_
        rintro e w1 ⟨⟨A1, c1, rfl, hown1⟩, hb1⟩
        have hB2 := since_step hB hb1
        have hown2 := own_base hown1 hB.size
        clear hown hown1 hb1 g0 g1 g2 g3
        go_wp2_with fail
        go_roundw
        case rel => exact ⟨k + 1, putR ahM R v, A1, c1, by omega, by omega, by go_num, rfl, hown2, pairwise_putR ordM v R HSD.out, Nat.le_trans (length_putR _ _) (by omega), hB2⟩
        case measure => simp [intOf]; omega
      · have hnb : (n == 0) = false := by simpa using hn
        go_wp2_with fail
        refine HPT.out.mono ?_
        rintro e w1 ⟨⟨A1, c1, rfl, hown1⟩, hb1⟩
        have hB2 := since_step hB hb1
        have hown2 := own_below hown hb1
        clear hown hown1 hb1 g0 g1 g2 g3
        go_wp2_with fail
        go_roundw
        case rel => exact ⟨k + 1, R, A', c', by omega, by omega, by go_num, rfl, hown2, HSD.out, by omega, hB2⟩
        case measure => simp [intOf]; omega
    · have hend : ¬ ((k : Int) < (l.length : Int)) ∨ ((k : Int) < (l.length : Int) ∧ ¬ ((k : Int) < 10)) := by omega
      have HF := Lib.hid (show Sorted R ∧ R.length ≤ 10 from ⟨hsd, by omega⟩)
      clear hgo hsd
      rcases hend with h1 | ⟨h1, h2⟩
      all_goals
        go_wp2_with fail
        go_ret
        exact ⟨⟨R, A', c', rfl, hown, HF.out.1, HF.out.2⟩, hB⟩
end Go.Proofs.Ytniapgcohihkhaa
