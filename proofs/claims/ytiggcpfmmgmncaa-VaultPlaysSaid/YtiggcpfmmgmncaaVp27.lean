import Derived.Test.YtiggcpfmmgmncaaVp26
set_option maxHeartbeats 16000000
set_option maxRecDepth 100000
set_option linter.unusedVariables false
set_option linter.unusedSimpArgs false
namespace Go.Proofs.Ytiggcpfmmgmncaa
open Go.ChangeShapes Go.WideShapes Go.ChangeAt Go.RowKit
section
def Rv.fused (x : Rv) (n : Int) (l : List Nt) : Rv × Int := if x.off = true then (x, 9) else ({ x with fuse := if n < 0 then -1 else n, keep := l }, 0)
theorem EDI : Elem Try.prog 37 3 1 8 := Elem.mk' (z := .int .i64 0) (by kernel_rfl) (by kernel_rfl) (by decide) (by decide)
theorem rfuse_any {B b c kc : Nat} {A KA : Option Addr} {R : List (RowS Nat)} {x : Rv} (n : Int) (L : Option Addr) (lc : Nat) (l : List Nt) (w : World) (h : RvA B w b A c R KA kc x) (hB : B ≤ w.heap.size) (hl : l.length ≤ 1000000) (hs : SlX [b] w L (rc Nt.cells l)) :
    Calls Try.prog 22 #[.pointer (some ⟨b, 0, none⟩), .int .i64 n, .slice L l.length lc] w fun e w' => e = .returned (.int .i64 (x.fused n l).2) ∧ ∃ KA' kc', RvA B w' b A c R KA' kc' (x.fused n l).1 ∧ ChgL [b] w w' := by
  obtain ⟨C, off, fuse, keep, writes⟩ := x
  obtain ⟨q0, q1, q2, q3, q4, qs⟩ := h.got
  simp only at q0 q1 q2 q3 q4 qs
  have HBB := Lib.hid hB
  have HLL := Lib.hid hl
  have HS := Lib.hid hs
  have HX := Lib.hid (show R.map RowS.l = C ∧ B ≤ b ∧ (∀ s ∈ C, s.length = 96) ∧ (∀ s ∈ C, Oct s) ∧ C.length ≤ 2048 from ⟨h.map, h.ge, h.s96, h.oct, h.small.1⟩)
  have f2 := h.fz 2
  have f3 := h.fz 3
  unfold Rv.fused
  clear hl hs hB
  cases off with
  | true =>
    have HV := Lib.hid h
    simp only [if_true]
    clear h
    go_enter Try.func22, Try.ntmps22
    go_wp2_with fail
    go_ret
    exact ⟨rfl, KA, kc, HV.out, ChgL.refl _ _⟩
  | false =>
    have HV := Lib.hid h
    simp only [Bool.false_eq_true, if_false]
    clear h
    by_cases hn : n < 0
    · rw [if_pos hn]
      have hn1 : n < 0 := hn
      go_enter Try.func22, Try.ntmps22
      go_upto_region 7 with fail
      have h1 : RvA B (w.setCell ⟨b, 2, none⟩ (.int .i64 n)) b A c R KA kc ⟨C, false, n, keep, writes⟩ := HV.out.set 2 _ rfl rfl (by simp [Rv.cells])
      have h2 : RvA B ((w.setCell ⟨b, 2, none⟩ (.int .i64 n)).setCell ⟨b, 2, none⟩ (.int .i64 (-1))) b A c R KA kc ⟨C, false, -1, keep, writes⟩ := h1.set 2 _ rfl rfl (by simp [Rv.cells])
      generalize hV : (w.setCell ⟨b, 2, none⟩ (.int .i64 n)).setCell ⟨b, 2, none⟩ (.int .i64 (-1)) = V at *
      have hC1 : ChgL [b] w V := by rw [← hV]; exact (ChgL.set (l := [b]) 2 _ (by simp)).trans (ChgL.set (l := [b]) 2 _ (by simp)) (fun y hy => .inl hy)
      have HC1 := Lib.hid hC1
      have HV1 := Lib.hid h2
      clear hV hC1 h1 h2 q0 q1 q2 q3 q4 qs f2 f3
      have h3 : (V.setCell ⟨b, 3, none⟩ (.slice none 0 0)).heap[b]? = some (.cells (Rv.cells (⟨C, false, -1, [], writes⟩ : Rv) A c none 0) 49 (0, 0)) := by
        have := set_blk (i := 3) (.slice none 0 0) HV1.out.blk
        rw [this]
        congr 1
      have hC2 : ChgL [b] w (V.setCell ⟨b, 3, none⟩ (.slice none 0 0)) := HC1.out.trans (ChgL.set (l := [b]) 3 _ (by simp)) (fun y hy => .inl hy)
      have ho2 := own_far1 HV1.out.own (p := ⟨b, 3, none⟩) (HV1.out.off HV1.out.own (by decide)) (.slice none 0 0)
      have hr2 : OwnR B (V.setCell ⟨b, 3, none⟩ (.slice none 0 0)) R := fun r hr => own_far1 (HV1.out.rows r hr) (p := ⟨b, 3, none⟩) (HV1.out.off (HV1.out.rows r hr) (by decide)) _
      have hsl := HS.out.chg hC2 (m := [b]) (fun y hy => .inl hy)
      generalize V.setCell ⟨b, 3, none⟩ (.slice none 0 0) = X at *
      have HC2 := Lib.hid hC2
      have HO2 := Lib.hid ho2
      have HR2 := Lib.hid hr2
      have HSL := Lib.hid hsl
      have H3 := Lib.hid h3
      have k3 := (box_cells' h3 3).1
      have z3 := (box_cells' h3 3).2.1
      have ks := (box_cells' h3 3).2.2
      simp only [Rv.cells, List.getElem?_toArray, List.getElem?_cons_zero, List.getElem?_cons_succ, List.length_nil] at k3
      clear hC2 ho2 hr2 hsl h3 HV1 HC1 HS
      go_wp2_with (first
        | (at_builtin; refine wpList_app3 rfl (.tmp 29) (.tmp 30) rfl EDI rfl rfl (own_nil X.heap.size _ _) (m := l.length) (news := rc Nt.cells l) (by rw [rc_length Nt.len, Nat.mul_one]) HSL.out.sl (rc_one (fun r u hu => by simp only [Nt.cells, List.mem_cons, List.not_mem_nil, or_false] at hu; subst hu; rfl) _) (by unfold maxLen; have := HLL.out; omega) (by have := HLL.out; omega) (Nat.le_refl _) ?_; intro A5 c5 w5 own5 hg5 hv5 hb5; have k3 := (hb5.cell (p := ⟨b, 3, none⟩) ks).trans k3; have z3 := (hb5.frozen (p := ⟨b, 3, none⟩) ks).trans z3; have ks := Nat.lt_of_lt_of_le ks hb5.size)
        | fail)
      simp only [Nat.zero_add, List.nil_append] at own5 ⊢
      have h5 : w5.heap[b]? = some (.cells (Rv.cells (⟨C, false, -1, [], writes⟩ : Rv) A c none 0) 49 (0, 0)) := by rw [hb5.block b (box_cells' H3.out 0).2.2]; exact H3.out
      have ho5 := own_below HO2.out hb5
      have hr5 := HR2.out.below hb5
      have hbo : ∀ (e : TypeId) (n size B2 : Nat) (v : Value) (xs : List Value), w5.ownsRow B2 e size v n xs → e ≠ 49 → v.ownBlock ≠ some b := fun e n size B2 v xs h he => own_type h h5 he
      have hfin : RvA B (w5.setCell ⟨b, 3, none⟩ (.slice A5 l.length c5)) b A c R A5 c5 ⟨C, false, -1, l, writes⟩ := by
        refine ⟨?_, own_far1 ho5 (p := ⟨b, 3, none⟩) (hbo _ _ _ _ _ _ ho5 (by decide)) _, fun r hr => own_far1 (hr5 r hr) (p := ⟨b, 3, none⟩) (hbo _ _ _ _ _ _ (hr5 r hr) (by decide)) _, own_far1 (own_base own5 (Nat.le_trans HBB.out HC2.out.size)) (p := ⟨b, 3, none⟩) (hbo _ _ _ _ _ _ own5 (by decide)) _, HX.out.1, HX.out.2.1, HX.out.2.2.1, HX.out.2.2.2.1, HX.out.2.2.2.2, HLL.out⟩
        have := set_blk (i := 3) (.slice A5 l.length c5) h5
        rw [this]
        congr 1
      have HFIN := Lib.hid hfin
      have HC5 : Hid (ChgL [b] w (w5.setCell ⟨b, 3, none⟩ (.slice A5 l.length c5))) := Lib.hid ((HC2.out.step hb5).trans (ChgL.set (l := [b]) 3 _ (by simp)) (fun y hy => .inl hy))
      clear hfin hbo hr5 ho5 h5 own5 hg5 hv5 hb5
      go_wp2_with fail
      go_ret
      exact ⟨rfl, ⟨A5, c5, HFIN.out⟩, HC5.out⟩
    · rw [if_neg hn]
      have hn1 : ¬ n < 0 := hn
      go_enter Try.func22, Try.ntmps22
      go_upto_region 7 with fail
      have h1 : RvA B (w.setCell ⟨b, 2, none⟩ (.int .i64 n)) b A c R KA kc ⟨C, false, n, keep, writes⟩ := HV.out.set 2 _ rfl rfl (by simp [Rv.cells])
      generalize hV : w.setCell ⟨b, 2, none⟩ (.int .i64 n) = V at *
      have hC1 : ChgL [b] w V := by rw [← hV]; exact ChgL.set (l := [b]) 2 _ (by simp)
      have HC1 := Lib.hid hC1
      have HV1 := Lib.hid h1
      clear hV hC1 h1  q0 q1 q2 q3 q4 qs f2 f3
      have h3 : (V.setCell ⟨b, 3, none⟩ (.slice none 0 0)).heap[b]? = some (.cells (Rv.cells (⟨C, false, n, [], writes⟩ : Rv) A c none 0) 49 (0, 0)) := by
        have := set_blk (i := 3) (.slice none 0 0) HV1.out.blk
        rw [this]
        congr 1
      have hC2 : ChgL [b] w (V.setCell ⟨b, 3, none⟩ (.slice none 0 0)) := HC1.out.trans (ChgL.set (l := [b]) 3 _ (by simp)) (fun y hy => .inl hy)
      have ho2 := own_far1 HV1.out.own (p := ⟨b, 3, none⟩) (HV1.out.off HV1.out.own (by decide)) (.slice none 0 0)
      have hr2 : OwnR B (V.setCell ⟨b, 3, none⟩ (.slice none 0 0)) R := fun r hr => own_far1 (HV1.out.rows r hr) (p := ⟨b, 3, none⟩) (HV1.out.off (HV1.out.rows r hr) (by decide)) _
      have hsl := HS.out.chg hC2 (m := [b]) (fun y hy => .inl hy)
      generalize V.setCell ⟨b, 3, none⟩ (.slice none 0 0) = X at *
      have HC2 := Lib.hid hC2
      have HO2 := Lib.hid ho2
      have HR2 := Lib.hid hr2
      have HSL := Lib.hid hsl
      have H3 := Lib.hid h3
      have k3 := (box_cells' h3 3).1
      have z3 := (box_cells' h3 3).2.1
      have ks := (box_cells' h3 3).2.2
      simp only [Rv.cells, List.getElem?_toArray, List.getElem?_cons_zero, List.getElem?_cons_succ, List.length_nil] at k3
      clear hC2 ho2 hr2 hsl h3 HV1 HC1 HS
      go_wp2_with (first
        | (at_builtin; refine wpList_app3 rfl (.tmp 29) (.tmp 30) rfl EDI rfl rfl (own_nil X.heap.size _ _) (m := l.length) (news := rc Nt.cells l) (by rw [rc_length Nt.len, Nat.mul_one]) HSL.out.sl (rc_one (fun r u hu => by simp only [Nt.cells, List.mem_cons, List.not_mem_nil, or_false] at hu; subst hu; rfl) _) (by unfold maxLen; have := HLL.out; omega) (by have := HLL.out; omega) (Nat.le_refl _) ?_; intro A5 c5 w5 own5 hg5 hv5 hb5; have k3 := (hb5.cell (p := ⟨b, 3, none⟩) ks).trans k3; have z3 := (hb5.frozen (p := ⟨b, 3, none⟩) ks).trans z3; have ks := Nat.lt_of_lt_of_le ks hb5.size)
        | fail)
      simp only [Nat.zero_add, List.nil_append] at own5 ⊢
      have h5 : w5.heap[b]? = some (.cells (Rv.cells (⟨C, false, n, [], writes⟩ : Rv) A c none 0) 49 (0, 0)) := by rw [hb5.block b (box_cells' H3.out 0).2.2]; exact H3.out
      have ho5 := own_below HO2.out hb5
      have hr5 := HR2.out.below hb5
      have hbo : ∀ (e : TypeId) (n size B2 : Nat) (v : Value) (xs : List Value), w5.ownsRow B2 e size v n xs → e ≠ 49 → v.ownBlock ≠ some b := fun e n size B2 v xs h he => own_type h h5 he
      have hfin : RvA B (w5.setCell ⟨b, 3, none⟩ (.slice A5 l.length c5)) b A c R A5 c5 ⟨C, false, n, l, writes⟩ := by
        refine ⟨?_, own_far1 ho5 (p := ⟨b, 3, none⟩) (hbo _ _ _ _ _ _ ho5 (by decide)) _, fun r hr => own_far1 (hr5 r hr) (p := ⟨b, 3, none⟩) (hbo _ _ _ _ _ _ (hr5 r hr) (by decide)) _, own_far1 (own_base own5 (Nat.le_trans HBB.out HC2.out.size)) (p := ⟨b, 3, none⟩) (hbo _ _ _ _ _ _ own5 (by decide)) _, HX.out.1, HX.out.2.1, HX.out.2.2.1, HX.out.2.2.2.1, HX.out.2.2.2.2, HLL.out⟩
        have := set_blk (i := 3) (.slice A5 l.length c5) h5
        rw [this]
        congr 1
      have HFIN := Lib.hid hfin
      have HC5 : Hid (ChgL [b] w (w5.setCell ⟨b, 3, none⟩ (.slice A5 l.length c5))) := Lib.hid ((HC2.out.step hb5).trans (ChgL.set (l := [b]) 3 _ (by simp)) (fun y hy => .inl hy))
      clear hfin hbo hr5 ho5 h5 own5 hg5 hv5 hb5
      go_wp2_with fail
      go_ret
      exact ⟨rfl, ⟨A5, c5, HFIN.out⟩, HC5.out⟩
def Rv.write (x : Rv) (p : Int) (cs : List (List Nat)) : Rv × Int :=
  if x.off = true then (x, 9)
  else ({ x with C := putK (x.fuse == 0) x.keep p.toNat cs cs.length x.C, off := x.fuse == 0, writes := wrap64 (x.writes + 1), fuse := if 0 < x.fuse then x.fuse - 1 else x.fuse }, if (x.fuse == 0) = true then 9 else 0)
theorem cell_own {w : World} {B g c n k : Nat} {R : List (RowS Nat)} (h : w.ownsRow B 36 1 (.slice (some ⟨g, 0, none⟩) n c) n (rc RowS.cells R)) (hk : k < n) : ∃ u, w.cell? ⟨g, k, none⟩ = some u ∧ w.frozen? ⟨g, k, none⟩ = false ∧ g < w.heap.size ∧ n ≤ c := by
  rcases h.2 with ⟨hv, _⟩ | ⟨g2, cap, cur, hv, hbg, hh, hnc, hcm, hcs, ht⟩
  · cases hv
  · injection hv with h1 h2 h3
    injection h1 with h1
    injection h1 with h1
    subst h1; subst h3
    have hlt : k < cur.size := by simp only [Nat.mul_one] at hcs; omega
    refine ⟨cur[k], ?_, by simp [World.frozen?, hh], (Array.getElem?_eq_some_iff.1 hh).1, hnc⟩
    simp [World.cell?, hh, hlt]
theorem RvA.put {B b g c kc q : Nat} {KA : Option Addr} {R : List (RowS Nat)} {x : Rv} {w : World} (h : RvA B w b (some ⟨g, 0, none⟩) c R KA kc x) (hq : q < x.C.length) {r : RowS Nat} (hr : w.ownsRow B 5 1 (.slice r.A r.l.length r.c) r.l.length (by8 r.l)) (h96 : r.l.length = 96) (ho : Oct r.l) :
    RvA B (w.setCell ⟨g, q, none⟩ (.slice r.A r.l.length r.c)) b (some ⟨g, 0, none⟩) c (R.set q r) KA kc { x with C := x.C.set q r.l } := by
  have hqR : q < R.length := by rw [← List.length_map (f := RowS.l), h.map]; exact hq
  have hgb : b ≠ g := fun e => h.off h.own (by decide) (by rw [e]; rfl)
  obtain ⟨_, _, _, hlt, _⟩ := cell_own h.own hq
  have hgo : ∀ (e : TypeId) (B2 size n : Nat) (v : Value) (xs : List Value), w.ownsRow B2 e size v n xs → e ≠ 36 → v.ownBlock ≠ some g := fun e B2 size n v xs ho2 he => by
    rcases h.own.2 with ⟨hv, _⟩ | ⟨g2, cap, cur, hv, hbg, hh, hnc, hcm, hcs, ht⟩
    · cases hv
    · injection hv with h1 h2 h3
      injection h1 with h1
      injection h1 with h1
      subst h1
      exact own_type ho2 hh he
  refine ⟨?_, ?_, ?_, own_far1 h.kp (p := ⟨g, q, none⟩) (hgo _ _ _ _ _ _ h.kp (by decide)) _, ?_, h.ge, ?_, ?_, by simpa using h.small⟩
  · rw [set_far _ (show b ≠ (⟨g, q, none⟩ : Addr).block from hgb), h.blk]
    simp [Rv.cells]
  · have := own_setS h.own r hqR
    simpa using this
  · intro s hs
    rcases List.mem_or_eq_of_mem_set hs with h1 | h1
    · exact own_far1 (h.rows s h1) (p := ⟨g, q, none⟩) (hgo _ _ _ _ _ _ (h.rows s h1) (by decide)) _
    · subst h1
      exact own_far1 hr (p := ⟨g, q, none⟩) (hgo _ _ _ _ _ _ hr (by decide)) _
  · show (R.set q r).map RowS.l = x.C.set q r.l
    rw [List.map_set, h.map]
  · intro s hs
    rcases List.mem_or_eq_of_mem_set hs with h1 | h1
    · exact h.s96 s h1
    · rw [h1]; exact h96
  · intro s hs
    rcases List.mem_or_eq_of_mem_set hs with h1 | h1
    · exact h.oct s h1
    · rw [h1]; exact ho
theorem rwrite_ok {B b c kc : Nat} {A KA L : Option Addr} {R : List (RowS Nat)} {x : Rv} (q : Nat) (lc : Nat) (S : List (RowS Nat)) (w : World) (h : RvA B w b A c R KA kc x) (hB : B ≤ w.heap.size) (hs : RowsX (blkR b A x.C.length c) w L S) (hcs : ∀ r ∈ S, r.l.length = 96 ∧ Oct r.l) (hoff : x.off = false) (hq : q + S.length ≤ x.C.length) (h0 : 0 < S.length) (hfu : x.fuse ≤ 9223372036854775807) (hfl : -9223372036854775807 ≤ x.fuse) :
    Calls Try.prog 60 #[.pointer (some ⟨b, 0, none⟩), .int .i64 q, .slice L S.length lc] w fun e w' => e = .returned (.int .i64 (x.write q (S.map RowS.l)).2) ∧ ∃ R', RvA B w' b A c R' KA kc (x.write q (S.map RowS.l)).1 ∧ ChgL (blkR b A x.C.length c) w w' := by
  obtain ⟨C, off, fuse, keep, writes⟩ := x
  simp only at hs hoff hq hfu hfl
  subst hoff
  unfold Rv.write blkR at *
  simp only [Bool.false_eq_true, if_false]
  obtain ⟨g, hg⟩ : ∃ g, A = some ⟨g, 0, none⟩ := by
    rcases h.own.2 with ⟨hv, hn⟩ | ⟨g, cap, cur, hv, _⟩
    · have : C.length = 0 := hn
      omega
    · injection hv with hv
      exact ⟨g, hv⟩
  subst hg
  obtain ⟨q0, q1, q2, q3, q4, qs⟩ := h.got
  simp only at q0 q1 q2 q3 q4 qs
  have HV := Lib.hid h
  have HSS := Lib.hid (fun V (hV : ChgL (b :: (Value.slice (some ⟨g, 0, none⟩) C.length c).ownBlock.toList) w V) => hs.chg hV (m := b :: (Value.slice (some ⟨g, 0, none⟩) C.length c).ownBlock.toList) (fun y hy => .inl hy))
  have HSL := Lib.hid hs.1.sl
  have HCS := Lib.hid hcs
  have HBB := Lib.hid hB
  have HCL := Lib.hid (show C.length ≤ 2048 from h.small.1)
  have hSl : S.length ≤ 2048 := by have := HCL.out; omega
  have f1 := h.fz 1
  have f2 := h.fz 2
  have f4 := h.fz 4
  clear h hB hs hcs
  rcases (by omega : fuse = 0 ∨ 0 < fuse ∨ fuse < 0) with hf | hf | hf
  · have HFZ : Hid ((fuse == 0) = true) := Lib.hid (by simpa using hf)
    rw [HFZ.out, if_neg (show ¬ 0 < fuse by omega)]
    clear hf
    have hlen : (S.map RowS.l).length = S.length := List.length_map _
    rw [hlen, Int.toNat_natCast]
    clear hlen
    go_enter Try.func60, Try.ntmps60
    go_wp2_with fail
    go_loopw [7] (fun i wr => ∃ k : Nat, k ≤ S.length ∧ i = .int .i64 k ∧ Below w.heap.size w wr) (fun i _ => S.length - (intOf i).toNat)
    case atStart => exact ⟨0, Nat.zero_le _, rfl, Below.refl _ _⟩
    case round =>
      obtain ⟨k, hk, rfl, hbw0⟩ := hrel
      by_cases hlt : k < S.length
      · have hlk : (k : Int) < (S.length : Int) := by omega
        have hgk : (0 : Int) ≤ (k : Int) := by omega
        obtain ⟨bb, o, hA, hbw, hcS⟩ := (HSL.out.below hbw0).rowS hlt
        rw [(HCS.out S[k] (List.getElem_mem hlt)).1] at hcS
        subst hA
        go_wp2_with fail
        go_roundw
        case rel => exact ⟨k + 1, by omega, by go_num, hbw0⟩
        case measure => simp [intOf]; omega
      · obtain rfl : k = S.length := by omega
        have hlk : ¬ ((S.length : Int) < (S.length : Int)) := by omega
        have hr1 : ¬ (q : Int) < 0 := by omega
        have hr1' : decide ((q : Int) < 0) = false := decide_eq_false hr1
        have hr2 : ¬ (C.length : Int) < (q : Int) := by omega
        have hr2' : decide ((C.length : Int) < (q : Int)) = false := decide_eq_false hr2
        have hwr : IntKind.i64.wrap ((C.length : Int) - (q : Int)) = (C.length : Int) - (q : Int) := by rw [IntKind.wrap_i64]; have := HCL.out; omega
        have hr3 : ¬ (C.length : Int) - (q : Int) < (S.length : Int) := by omega
        have hr3' : decide ((C.length : Int) - (q : Int) < (S.length : Int)) = false := decide_eq_false hr3
        have hn0 : ((S.length : Int) == 0) = false := by simpa using (by omega : (S.length : Int) ≠ 0)
        have HV := Lib.hid (HV.out.below hbw0)
        have HB0 := Lib.hid hbw0
        generalize wr = wq at *
        clear hbw0
        obtain ⟨q0, q1, q2, q3, q4, qs⟩ := HV.out.got
        simp only at q0 q1 q2 q3 q4 qs
        have f1 := HV.out.fz 1
        have f2 := HV.out.fz 2
        have f4 := HV.out.fz 4
        have hfz : (fuse == 0) = true := HFZ.out
        go_upto_region 14 with fail
        have h3 : RvA B (wq.setCell ⟨b, 4, none⟩ (.int .i64 (wrap64 (writes + 1)))) b (some ⟨g, 0, none⟩) c R KA kc ⟨C, false, fuse, keep, wrap64 (writes + 1)⟩ := HV.out.set 4 _ rfl rfl (by simp [Rv.cells])
        have h4 : RvA B ((wq.setCell ⟨b, 4, none⟩ (.int .i64 (wrap64 (writes + 1)))).setCell ⟨b, 1, none⟩ (.bool true)) b (some ⟨g, 0, none⟩) c R KA kc ⟨C, true, fuse, keep, wrap64 (writes + 1)⟩ := h3.set 1 _ rfl rfl (by simp [Rv.cells])
        have hc4 : ChgL (b :: (Value.slice (some ⟨g, 0, none⟩) C.length c).ownBlock.toList) w ((wq.setCell ⟨b, 4, none⟩ (.int .i64 (wrap64 (writes + 1)))).setCell ⟨b, 1, none⟩ (.bool true)) := ((ChgL.of_below HB0.out).trans (ChgL.set (l := b :: (Value.slice (some ⟨g, 0, none⟩) C.length c).ownBlock.toList) 4 _ (by simp)) (fun y hy => .inl hy)).trans (ChgL.set (l := b :: (Value.slice (some ⟨g, 0, none⟩) C.length c).ownBlock.toList) 1 _ (by simp)) (fun y hy => .inl hy)
        generalize (wq.setCell ⟨b, 4, none⟩ (.int .i64 (wrap64 (writes + 1)))).setCell ⟨b, 1, none⟩ (.bool true) = V at *
        have HV4 := Lib.hid h4
        have HC4 := Lib.hid hc4
        clear h3 h4 hc4 q0 q1 q2 q3 q4 qs f1 f2 f4 HV
        go_wp2_with fail
        go_loopw [8] (fun i wr => ∃ (k : Nat) (R2 : List (RowS Nat)), k ≤ S.length ∧ i = .int .i64 k ∧ Hid (ChgL (b :: (Value.slice (some ⟨g, 0, none⟩) C.length c).ownBlock.toList) w wr) ∧ Hid (RvA B wr b (some ⟨g, 0, none⟩) c R2 KA kc ⟨putK true keep q (S.map RowS.l) k C, true, fuse, keep, wrap64 (writes + 1)⟩)) (fun i _ => S.length - (intOf i).toNat)
        case atStart => exact ⟨0, R, Nat.zero_le _, rfl, HC4, HV4⟩
        case round =>
          clear HC4 HV4
          obtain ⟨k, R2, hk, rfl, HCX, HRV⟩ := hrel
          obtain ⟨p0, p1, p2, p3, p4, ps⟩ := HRV.out.got
          simp only at p0 p1 p2 p3 p4 ps
          rw [putK_len] at p0
          by_cases hlt2 : k < S.length
          · have hlk : (k : Int) < (S.length : Int) := by omega
            have hgk : (0 : Int) ≤ (k : Int) := by omega
            obtain ⟨bb, o, hA, hbw, hcS⟩ := (HSS.out _ HCX.out).1.sl.rowS hlt2
            subst hA
            have hgq : (0 : Int) ≤ (q : Int) + (k : Int) := by omega
            have HQK := Lib.hid (show q + k < C.length by omega)
            have HKL := Lib.hid hlt2
            have hgq2 : (q : Int) + (k : Int) < (C.length : Int) := by omega
            have hwq : IntKind.i64.wrap ((q : Int) + (k : Int)) = (q : Int) + (k : Int) := by rw [IntKind.wrap_i64]; have := HCL.out; omega
            cases hhit : inL (k : Int) keep with
            | true =>
              have HHIT := Lib.hid hhit
              clear hhit
              have HHAS := Lib.hid (rhas_any KA kc keep (k : Int) wr HRV.out.small.2 (Sl.of_own HRV.out.kp))
              go_wp2_with fail
              refine HHAS.out.mono ?_
              rintro e w2 ⟨rfl, hb2⟩
              have HRV := Lib.hid (HRV.out.below hb2)
              have HCX := Lib.hid (HCX.out.step hb2)
              have hcS := (hb2.cell (p := ⟨bb, o + k, none⟩) hbw).trans hcS
              have hbw : bb < w2.heap.size := Nat.lt_of_lt_of_le hbw hb2.size
              clear hb2 HHAS p0 p1 p2 p3 p4 ps
              obtain ⟨p0, p1, p2, p3, p4, ps⟩ := HRV.out.got
              simp only at p0 p1 p2 p3 p4 ps
              rw [putK_len] at p0
              rw [HHIT.out]
              dsimp only
              have hslS := ((HSS.out _ HCX.out).2 _ (List.getElem_mem hlt2))
              have HSK := Lib.hid hslS
              have h96 := HCS.out _ (List.getElem_mem hlt2)
              have HS96 := Lib.hid h96
              rw [h96.1] at hcS
              obtain ⟨rk, hrk⟩ : ∃ rk, S[k]'hlt2 = rk := ⟨_, rfl⟩
              rw [hrk] at hcS HSK HS96
              have HRK := Lib.hid hrk
              clear hslS h96 hrk
              go_upto_region 19 with fail
              have hbd : Below w2.heap.size w2 w2.drew := (Below.refl _ _).drew
              have hgbb : bb ≠ g := fun e => by
                have h9 := ((HSS.out _ HCX.out).1.2 _ rfl (fun h => by have h8 := congrArg List.length h; rw [rc_length RowS.len, Nat.mul_one] at h8; have h7 : S.length = 0 := h8; omega)).2
                exact h9 (by rw [e]; simp [Value.ownBlock])
              have hgb : b ≠ g := fun e => HRV.out.off HRV.out.own (by decide) (by rw [e]; rfl)
              have HRX := Lib.hid (HRV.out.below hbd)
              have HCY := Lib.hid (HCX.out.step hbd)
              have HSL2 := Lib.hid (HSK.out.below hbd).sl
              have HNE := Lib.hid (show bb ≠ g ∧ b ≠ g from ⟨hgbb, hgb⟩)
              have hst : (w2.drew).cell? ⟨b, 0, none⟩ = some (.slice (some ⟨g, 0, none⟩) C.length c) ∧ (w2.drew).cell? ⟨bb, o + k, none⟩ = some (.slice rk.A 96 rk.c) ∧ b < (w2.drew).heap.size ∧ bb < (w2.drew).heap.size := ⟨p0, hcS, ps, hbw⟩
              have HST := Lib.hid hst
              clear hbd hgbb hgb p0 p1 p2 p3 p4 ps hcS hst
              refine wp_region_held_drew (S := (fun V => V.cell? ⟨b, 0, none⟩ = some (.slice (some ⟨g, 0, none⟩) C.length c) ∧ V.cell? ⟨bb, o + k, none⟩ = some (.slice rk.A 96 rk.c) ∧ b < V.heap.size ∧ bb < V.heap.size)) (by kernel_rfl) (by exact HST.out) (fun hHeld => ?_)
              refine tkJ 0 87 rfl (by intro w; go_simp <;> with_reducible rfl) hHeld ?_; simp only [pqZ]
              refine tkJ 1 88 rfl (by intro w; go_simp <;> with_reducible rfl) hHeld ?_; simp only [pqZ]
              refine tkJ 2 89 rfl (by intro w; go_simp <;> with_reducible rfl) hHeld ?_; simp only [pqZ]
              refine tkI 3 90 rfl (by intro w hSw; obtain ⟨z0, z1, zs, zt⟩ := (hSw); go_simp <;> with_reducible rfl) hHeld ?_; simp only [pqZ]
              refine tkJ 4 91 rfl (by intro w; go_simp <;> with_reducible rfl) hHeld ?_; simp only [pqZ]
              refine tkJ 5 92 rfl (by intro w; go_simp <;> with_reducible rfl) hHeld ?_; simp only [pqZ]
              refine tkJ 6 93 rfl (by intro w; go_simp <;> with_reducible rfl) hHeld ?_; simp only [pqZ]
              refine tkJ 7 94 rfl (by intro w; go_simp <;> with_reducible rfl) hHeld ?_; simp only [pqZ]
              refine tkJ 8 95 rfl (by intro w; go_simp <;> with_reducible rfl) hHeld ?_; simp only [pqZ]
              refine tkJ 9 96 rfl (by intro w; go_simp <;> with_reducible rfl) hHeld ?_; simp only [pqZ]
              refine tkJ 10 97 rfl (by intro w; go_simp <;> with_reducible rfl) hHeld ?_; simp only [pqZ]
              refine tkI 11 98 rfl (by intro w hSw; obtain ⟨z0, z1, zs, zt⟩ := (hSw); go_simp <;> with_reducible rfl) hHeld ?_; simp only [pqZ]
              refine rdZ 12 99 rfl (by kernel_rfl) (fun K hK => ?_)
              refine step_app2 rfl (.tmp 94) (.tmp 98) rfl EF8 (n := 0) (m := 96) (c := 0) (d := rk.c) (A := none) (B := rk.A) (by simp [Act.eval, Act.put]; done) (by simp [Act.eval, Act.put]; done) (own_nil (w2.drew).heap.size _ _) (news := by8 rk.l) (by rw [by8_length, HS96.out.1]) (by decide) HSL2.out (by8_one _) (by unfold maxLen; decide) (by decide) (Nat.le_refl _) ?_
              intro A5 c5 w5 own5 hg5 hv5 hb5
              simp only [Nat.zero_add, List.nil_append] at own5 ⊢
              have hKeep : (fun V => V.cell? ⟨b, 0, none⟩ = some (.slice (some ⟨g, 0, none⟩) C.length c) ∧ V.cell? ⟨bb, o + k, none⟩ = some (.slice rk.A 96 rk.c) ∧ b < V.heap.size ∧ bb < V.heap.size) w5 := ⟨(hb5.cell (p := ⟨b, 0, none⟩) HST.out.2.2.1).trans HST.out.1, (hb5.cell (p := ⟨bb, o + k, none⟩) HST.out.2.2.2).trans HST.out.2.1, Nat.lt_of_lt_of_le HST.out.2.2.1 hb5.size, Nat.lt_of_lt_of_le HST.out.2.2.2 hb5.size⟩
              have HR5 := Lib.hid (HRX.out.below hb5)
              have HC5 := Lib.hid (HCY.out.step hb5)
              have hown5 := own_base own5 (Nat.le_trans HBB.out HCY.out.size)
              rw [HS96.out.1.symm] at hown5
              have HO5 := Lib.hid hown5
              clear own5 hg5 hv5 hb5 hown5
              refine hK.out _ _ (by (try dsimp only); exact hKeep) (fun hHeld => ?_); clear hK K hKeep; try simp only [pqZ]
              refine tkJ 13 100 rfl (by intro w; go_simp <;> with_reducible rfl) hHeld ?_; simp only [pqZ]
              refine wpAnyH_ready (rs := [14]) (by kernel_rfl) (by simp) ?_
              refine AllReadyH.cons (o := ⟨none, _, _, _, _, _⟩) rfl (fun K hK => ?_) AllReadyH.nil
              have hHd := hHeld
              obtain ⟨z0, z1, zs, zt⟩ := (hHd)
              have hto : ((q : Int) + (k : Int)).toNat = q + k := by omega
              obtain ⟨u5, hcell5, hfz5, hlt5, hsz5⟩ := cell_own HR5.out.own (k := q + k) (by simp only; rw [putK_len]; exact HQK.out)
              have hKeep : (fun V => V.cell? ⟨b, 0, none⟩ = some (.slice (some ⟨g, 0, none⟩) C.length c) ∧ V.cell? ⟨bb, o + k, none⟩ = some (.slice rk.A 96 rk.c) ∧ b < V.heap.size ∧ bb < V.heap.size) (w5.setCell ⟨g, q + k, none⟩ (.slice A5 96 c5)) := ⟨by rw [cell_blk (set_far _ (show b ≠ (⟨g, q + k, none⟩ : Addr).block from HNE.out.2))]; exact z0, by rw [cell_blk (set_far _ (show bb ≠ (⟨g, q + k, none⟩ : Addr).block from HNE.out.1))]; exact z1, by simpa using zs, by simpa using zt⟩
              have hfin := HR5.out.put (q := q + k) (by simp only; rw [putK_len]; exact HQK.out) (r := ⟨A5, c5, rk.l⟩) HO5.out HS96.out.1 HS96.out.2
              rw [show (⟨A5, c5, rk.l⟩ : RowS Nat).l.length = 96 from HS96.out.1] at hfin
              have HFN := Lib.hid hfin
              have HC6 : Hid (ChgL (b :: (Value.slice (some ⟨g, 0, none⟩) C.length c).ownBlock.toList) w (w5.setCell ⟨g, q + k, none⟩ (.slice A5 96 c5))) := Lib.hid (HC5.out.trans (ChgL.set (l := b :: (Value.slice (some ⟨g, 0, none⟩) C.length c).ownBlock.toList) (q + k) _ (by simp [Value.ownBlock])) (fun y hy => .inl hy))
              clear hfin z0 z1 zs zt
              go_simp
              refine hK.out _ _ (by (try dsimp only); exact hKeep) (fun hHeld => ?_); clear hK K hKeep; try simp only [pqZ]
              refine wpAnyH_done (by kernel_rfl) ?_ _
              go_wp2_with fail
              have HFIN := HFN
              go_roundw
              case rel => exact ⟨k + 1, R2.set (q + k) ⟨A5, c5, rk.l⟩, by omega, by go_num, HC6, Lib.hid (by have h9 := HFIN.out; rw [show putK true keep q (S.map RowS.l) (k + 1) C = (putK true keep q (S.map RowS.l) k C).set (q + k) rk.l from by rw [putK, if_pos (by first | rfl | (rw [HHIT.out]; rfl)), List.getD_eq_getElem?_getD, List.getElem?_map, List.getElem?_eq_getElem HKL.out, HRK.out]; rfl]; exact h9)⟩
              case measure => simp [intOf]; have := HKL.out; omega
            | false =>
              have HHIT := Lib.hid hhit
              clear hhit
              have HHAS := Lib.hid (rhas_any KA kc keep (k : Int) wr HRV.out.small.2 (Sl.of_own HRV.out.kp))
              go_wp2_with fail
              refine HHAS.out.mono ?_
              rintro e w2 ⟨rfl, hb2⟩
              have HRV := Lib.hid (HRV.out.below hb2)
              have HCX := Lib.hid (HCX.out.step hb2)
              have hcS := (hb2.cell (p := ⟨bb, o + k, none⟩) hbw).trans hcS
              have hbw : bb < w2.heap.size := Nat.lt_of_lt_of_le hbw hb2.size
              clear hb2 HHAS p0 p1 p2 p3 p4 ps
              obtain ⟨p0, p1, p2, p3, p4, ps⟩ := HRV.out.got
              simp only at p0 p1 p2 p3 p4 ps
              rw [putK_len] at p0
              rw [HHIT.out]
              dsimp only
              go_wp2_with fail
              go_roundw
              case rel => exact ⟨k + 1, R2, by omega, by go_num, HCX, Lib.hid (by have h9 := HRV.out; rw [show putK true keep q (S.map RowS.l) (k + 1) C = putK true keep q (S.map RowS.l) k C from by rw [putK, if_neg (by rw [HHIT.out]; decide)]]; exact h9)⟩
              case measure => simp [intOf]; omega
          · obtain rfl : k = S.length := by omega
            have hlk : ¬ ((S.length : Int) < (S.length : Int)) := by omega
            clear HFZ
            go_wp2_with fail
            go_ret
            exact ⟨rfl, ⟨R2, HRV.out⟩, HCX.out⟩
  · have HFZ : Hid ((fuse == 0) = false) := Lib.hid (by simpa using (show fuse ≠ 0 by omega))
    rw [HFZ.out, if_pos hf]
    have HFP := Lib.hid hf
    clear hf
    have hlen : (S.map RowS.l).length = S.length := List.length_map _
    rw [hlen, Int.toNat_natCast]
    clear hlen
    go_enter Try.func60, Try.ntmps60
    go_wp2_with fail
    go_loopw [7] (fun i wr => ∃ k : Nat, k ≤ S.length ∧ i = .int .i64 k ∧ Below w.heap.size w wr) (fun i _ => S.length - (intOf i).toNat)
    case atStart => exact ⟨0, Nat.zero_le _, rfl, Below.refl _ _⟩
    case round =>
      obtain ⟨k, hk, rfl, hbw0⟩ := hrel
      by_cases hlt : k < S.length
      · have hlk : (k : Int) < (S.length : Int) := by omega
        have hgk : (0 : Int) ≤ (k : Int) := by omega
        obtain ⟨bb, o, hA, hbw, hcS⟩ := (HSL.out.below hbw0).rowS hlt
        rw [(HCS.out S[k] (List.getElem_mem hlt)).1] at hcS
        subst hA
        go_wp2_with fail
        go_roundw
        case rel => exact ⟨k + 1, by omega, by go_num, hbw0⟩
        case measure => simp [intOf]; omega
      · obtain rfl : k = S.length := by omega
        have hlk : ¬ ((S.length : Int) < (S.length : Int)) := by omega
        have hr1 : ¬ (q : Int) < 0 := by omega
        have hr1' : decide ((q : Int) < 0) = false := decide_eq_false hr1
        have hr2 : ¬ (C.length : Int) < (q : Int) := by omega
        have hr2' : decide ((C.length : Int) < (q : Int)) = false := decide_eq_false hr2
        have hwr : IntKind.i64.wrap ((C.length : Int) - (q : Int)) = (C.length : Int) - (q : Int) := by rw [IntKind.wrap_i64]; have := HCL.out; omega
        have hr3 : ¬ (C.length : Int) - (q : Int) < (S.length : Int) := by omega
        have hr3' : decide ((C.length : Int) - (q : Int) < (S.length : Int)) = false := decide_eq_false hr3
        have hn0 : ((S.length : Int) == 0) = false := by simpa using (by omega : (S.length : Int) ≠ 0)
        have HV := Lib.hid (HV.out.below hbw0)
        have HB0 := Lib.hid hbw0
        generalize wr = wq at *
        clear hbw0
        obtain ⟨q0, q1, q2, q3, q4, qs⟩ := HV.out.got
        simp only at q0 q1 q2 q3 q4 qs
        have f1 := HV.out.fz 1
        have f2 := HV.out.fz 2
        have f4 := HV.out.fz 4
        have hfz : (fuse == 0) = false := HFZ.out
        go_upto_region 14 with fail
        have h3 : RvA B (wq.setCell ⟨b, 4, none⟩ (.int .i64 (wrap64 (writes + 1)))) b (some ⟨g, 0, none⟩) c R KA kc ⟨C, false, fuse, keep, wrap64 (writes + 1)⟩ := HV.out.set 4 _ rfl rfl (by simp [Rv.cells])
        have h4 : RvA B ((wq.setCell ⟨b, 4, none⟩ (.int .i64 (wrap64 (writes + 1)))).setCell ⟨b, 1, none⟩ (.bool false)) b (some ⟨g, 0, none⟩) c R KA kc ⟨C, false, fuse, keep, wrap64 (writes + 1)⟩ := h3.set 1 _ rfl rfl (by simp [Rv.cells])
        have hc4 : ChgL (b :: (Value.slice (some ⟨g, 0, none⟩) C.length c).ownBlock.toList) w ((wq.setCell ⟨b, 4, none⟩ (.int .i64 (wrap64 (writes + 1)))).setCell ⟨b, 1, none⟩ (.bool false)) := ((ChgL.of_below HB0.out).trans (ChgL.set (l := b :: (Value.slice (some ⟨g, 0, none⟩) C.length c).ownBlock.toList) 4 _ (by simp)) (fun y hy => .inl hy)).trans (ChgL.set (l := b :: (Value.slice (some ⟨g, 0, none⟩) C.length c).ownBlock.toList) 1 _ (by simp)) (fun y hy => .inl hy)
        generalize (wq.setCell ⟨b, 4, none⟩ (.int .i64 (wrap64 (writes + 1)))).setCell ⟨b, 1, none⟩ (.bool false) = V at *
        have HV4 := Lib.hid h4
        have HC4 := Lib.hid hc4
        clear h3 h4 hc4 q0 q1 q2 q3 q4 qs f1 f2 f4 HV
        go_wp2_with fail
        go_loopw [8] (fun i wr => ∃ (k : Nat) (R2 : List (RowS Nat)), k ≤ S.length ∧ i = .int .i64 k ∧ Hid (ChgL (b :: (Value.slice (some ⟨g, 0, none⟩) C.length c).ownBlock.toList) w wr) ∧ Hid (RvA B wr b (some ⟨g, 0, none⟩) c R2 KA kc ⟨putK false keep q (S.map RowS.l) k C, false, fuse, keep, wrap64 (writes + 1)⟩)) (fun i _ => S.length - (intOf i).toNat)
        case atStart => exact ⟨0, R, Nat.zero_le _, rfl, HC4, HV4⟩
        case round =>
          clear HC4 HV4
          obtain ⟨k, R2, hk, rfl, HCX, HRV⟩ := hrel
          obtain ⟨p0, p1, p2, p3, p4, ps⟩ := HRV.out.got
          simp only at p0 p1 p2 p3 p4 ps
          rw [putK_len] at p0
          by_cases hlt2 : k < S.length
          · have hlk : (k : Int) < (S.length : Int) := by omega
            have hgk : (0 : Int) ≤ (k : Int) := by omega
            obtain ⟨bb, o, hA, hbw, hcS⟩ := (HSS.out _ HCX.out).1.sl.rowS hlt2
            subst hA
            have hgq : (0 : Int) ≤ (q : Int) + (k : Int) := by omega
            have HQK := Lib.hid (show q + k < C.length by omega)
            have HKL := Lib.hid hlt2
            have hgq2 : (q : Int) + (k : Int) < (C.length : Int) := by omega
            have hwq : IntKind.i64.wrap ((q : Int) + (k : Int)) = (q : Int) + (k : Int) := by rw [IntKind.wrap_i64]; have := HCL.out; omega
            go_wp2_with fail
            have hslS := ((HSS.out _ HCX.out).2 _ (List.getElem_mem hlt2))
            have HSK := Lib.hid hslS
            have h96 := HCS.out _ (List.getElem_mem hlt2)
            have HS96 := Lib.hid h96
            rw [h96.1] at hcS
            obtain ⟨rk, hrk⟩ : ∃ rk, S[k]'hlt2 = rk := ⟨_, rfl⟩
            rw [hrk] at hcS HSK HS96
            have HRK := Lib.hid hrk
            clear hslS h96 hrk
            go_upto_region 19 with fail
            have hbd : Below wr.heap.size wr wr.drew := (Below.refl _ _).drew
            have hgbb : bb ≠ g := fun e => by
              have h9 := ((HSS.out _ HCX.out).1.2 _ rfl (fun h => by have h8 := congrArg List.length h; rw [rc_length RowS.len, Nat.mul_one] at h8; have h7 : S.length = 0 := h8; omega)).2
              exact h9 (by rw [e]; simp [Value.ownBlock])
            have hgb : b ≠ g := fun e => HRV.out.off HRV.out.own (by decide) (by rw [e]; rfl)
            have HRX := Lib.hid (HRV.out.below hbd)
            have HCY := Lib.hid (HCX.out.step hbd)
            have HSL2 := Lib.hid (HSK.out.below hbd).sl
            have HNE := Lib.hid (show bb ≠ g ∧ b ≠ g from ⟨hgbb, hgb⟩)
            have hst : (wr.drew).cell? ⟨b, 0, none⟩ = some (.slice (some ⟨g, 0, none⟩) C.length c) ∧ (wr.drew).cell? ⟨bb, o + k, none⟩ = some (.slice rk.A 96 rk.c) ∧ b < (wr.drew).heap.size ∧ bb < (wr.drew).heap.size := ⟨p0, hcS, ps, hbw⟩
            have HST := Lib.hid hst
            clear hbd hgbb hgb p0 p1 p2 p3 p4 ps hcS hst
            refine wp_region_held_drew (S := (fun V => V.cell? ⟨b, 0, none⟩ = some (.slice (some ⟨g, 0, none⟩) C.length c) ∧ V.cell? ⟨bb, o + k, none⟩ = some (.slice rk.A 96 rk.c) ∧ b < V.heap.size ∧ bb < V.heap.size)) (by kernel_rfl) (by exact HST.out) (fun hHeld => ?_)
            refine tkJ 0 87 rfl (by intro w; go_simp <;> with_reducible rfl) hHeld ?_; simp only [pqZ]
            refine tkJ 1 88 rfl (by intro w; go_simp <;> with_reducible rfl) hHeld ?_; simp only [pqZ]
            refine tkJ 2 89 rfl (by intro w; go_simp <;> with_reducible rfl) hHeld ?_; simp only [pqZ]
            refine tkI 3 90 rfl (by intro w hSw; obtain ⟨z0, z1, zs, zt⟩ := (hSw); go_simp <;> with_reducible rfl) hHeld ?_; simp only [pqZ]
            refine tkJ 4 91 rfl (by intro w; go_simp <;> with_reducible rfl) hHeld ?_; simp only [pqZ]
            refine tkJ 5 92 rfl (by intro w; go_simp <;> with_reducible rfl) hHeld ?_; simp only [pqZ]
            refine tkJ 6 93 rfl (by intro w; go_simp <;> with_reducible rfl) hHeld ?_; simp only [pqZ]
            refine tkJ 7 94 rfl (by intro w; go_simp <;> with_reducible rfl) hHeld ?_; simp only [pqZ]
            refine tkJ 8 95 rfl (by intro w; go_simp <;> with_reducible rfl) hHeld ?_; simp only [pqZ]
            refine tkJ 9 96 rfl (by intro w; go_simp <;> with_reducible rfl) hHeld ?_; simp only [pqZ]
            refine tkJ 10 97 rfl (by intro w; go_simp <;> with_reducible rfl) hHeld ?_; simp only [pqZ]
            refine tkI 11 98 rfl (by intro w hSw; obtain ⟨z0, z1, zs, zt⟩ := (hSw); go_simp <;> with_reducible rfl) hHeld ?_; simp only [pqZ]
            refine rdZ 12 99 rfl (by kernel_rfl) (fun K hK => ?_)
            refine step_app2 rfl (.tmp 94) (.tmp 98) rfl EF8 (n := 0) (m := 96) (c := 0) (d := rk.c) (A := none) (B := rk.A) (by simp [Act.eval, Act.put]; done) (by simp [Act.eval, Act.put]; done) (own_nil (wr.drew).heap.size _ _) (news := by8 rk.l) (by rw [by8_length, HS96.out.1]) (by decide) HSL2.out (by8_one _) (by unfold maxLen; decide) (by decide) (Nat.le_refl _) ?_
            intro A5 c5 w5 own5 hg5 hv5 hb5
            simp only [Nat.zero_add, List.nil_append] at own5 ⊢
            have hKeep : (fun V => V.cell? ⟨b, 0, none⟩ = some (.slice (some ⟨g, 0, none⟩) C.length c) ∧ V.cell? ⟨bb, o + k, none⟩ = some (.slice rk.A 96 rk.c) ∧ b < V.heap.size ∧ bb < V.heap.size) w5 := ⟨(hb5.cell (p := ⟨b, 0, none⟩) HST.out.2.2.1).trans HST.out.1, (hb5.cell (p := ⟨bb, o + k, none⟩) HST.out.2.2.2).trans HST.out.2.1, Nat.lt_of_lt_of_le HST.out.2.2.1 hb5.size, Nat.lt_of_lt_of_le HST.out.2.2.2 hb5.size⟩
            have HR5 := Lib.hid (HRX.out.below hb5)
            have HC5 := Lib.hid (HCY.out.step hb5)
            have hown5 := own_base own5 (Nat.le_trans HBB.out HCY.out.size)
            rw [HS96.out.1.symm] at hown5
            have HO5 := Lib.hid hown5
            clear own5 hg5 hv5 hb5 hown5
            refine hK.out _ _ (by (try dsimp only); exact hKeep) (fun hHeld => ?_); clear hK K hKeep; try simp only [pqZ]
            refine tkJ 13 100 rfl (by intro w; go_simp <;> with_reducible rfl) hHeld ?_; simp only [pqZ]
            refine wpAnyH_ready (rs := [14]) (by kernel_rfl) (by simp) ?_
            refine AllReadyH.cons (o := ⟨none, _, _, _, _, _⟩) rfl (fun K hK => ?_) AllReadyH.nil
            have hHd := hHeld
            obtain ⟨z0, z1, zs, zt⟩ := (hHd)
            have hto : ((q : Int) + (k : Int)).toNat = q + k := by omega
            obtain ⟨u5, hcell5, hfz5, hlt5, hsz5⟩ := cell_own HR5.out.own (k := q + k) (by simp only; rw [putK_len]; exact HQK.out)
            have hKeep : (fun V => V.cell? ⟨b, 0, none⟩ = some (.slice (some ⟨g, 0, none⟩) C.length c) ∧ V.cell? ⟨bb, o + k, none⟩ = some (.slice rk.A 96 rk.c) ∧ b < V.heap.size ∧ bb < V.heap.size) (w5.setCell ⟨g, q + k, none⟩ (.slice A5 96 c5)) := ⟨by rw [cell_blk (set_far _ (show b ≠ (⟨g, q + k, none⟩ : Addr).block from HNE.out.2))]; exact z0, by rw [cell_blk (set_far _ (show bb ≠ (⟨g, q + k, none⟩ : Addr).block from HNE.out.1))]; exact z1, by simpa using zs, by simpa using zt⟩
            have hfin := HR5.out.put (q := q + k) (by simp only; rw [putK_len]; exact HQK.out) (r := ⟨A5, c5, rk.l⟩) HO5.out HS96.out.1 HS96.out.2
            rw [show (⟨A5, c5, rk.l⟩ : RowS Nat).l.length = 96 from HS96.out.1] at hfin
            have HFN := Lib.hid hfin
            have HC6 : Hid (ChgL (b :: (Value.slice (some ⟨g, 0, none⟩) C.length c).ownBlock.toList) w (w5.setCell ⟨g, q + k, none⟩ (.slice A5 96 c5))) := Lib.hid (HC5.out.trans (ChgL.set (l := b :: (Value.slice (some ⟨g, 0, none⟩) C.length c).ownBlock.toList) (q + k) _ (by simp [Value.ownBlock])) (fun y hy => .inl hy))
            clear hfin z0 z1 zs zt
            go_simp
            refine hK.out _ _ (by (try dsimp only); exact hKeep) (fun hHeld => ?_); clear hK K hKeep; try simp only [pqZ]
            refine wpAnyH_done (by kernel_rfl) ?_ _
            go_wp2_with fail
            have HFIN := HFN
            go_roundw
            case rel => exact ⟨k + 1, R2.set (q + k) ⟨A5, c5, rk.l⟩, by omega, by go_num, HC6, Lib.hid (by have h9 := HFIN.out; rw [show putK false keep q (S.map RowS.l) (k + 1) C = (putK false keep q (S.map RowS.l) k C).set (q + k) rk.l from by rw [putK, if_pos (by first | rfl | (rw [HHIT.out]; rfl)), List.getD_eq_getElem?_getD, List.getElem?_map, List.getElem?_eq_getElem HKL.out, HRK.out]; rfl]; exact h9)⟩
            case measure => simp [intOf]; have := HKL.out; omega
          · obtain rfl : k = S.length := by omega
            have hlk : ¬ ((S.length : Int) < (S.length : Int)) := by omega
            have f2 := HRV.out.fz 2
            have hlf := HFP.out
            have hlf1 : -9223372036854775808 ≤ fuse ∧ fuse ≤ 9223372036854775807 := by omega
            have hset : RvA B (wr.setCell ⟨b, 2, none⟩ (.int .i64 ((fuse - 1)))) b (some ⟨g, 0, none⟩) c R2 KA kc ⟨putK false keep q (S.map RowS.l) S.length C, false, (fuse - 1), keep, wrap64 (writes + 1)⟩ := HRV.out.set 2 _ rfl rfl (by simp [Rv.cells])
            have HFIN := Lib.hid hset
            have HC9 : Hid (ChgL (b :: (Value.slice (some ⟨g, 0, none⟩) C.length c).ownBlock.toList) w (wr.setCell ⟨b, 2, none⟩ (.int .i64 ((fuse - 1))))) := Lib.hid (HCX.out.trans (ChgL.set (l := b :: (Value.slice (some ⟨g, 0, none⟩) C.length c).ownBlock.toList) 2 _ (by simp)) (fun y hy => .inl hy))
            clear hset
            go_wp2_with fail
            go_ret
            exact ⟨rfl, ⟨R2, HFIN.out⟩, HC9.out⟩
  · have HFZ : Hid ((fuse == 0) = false) := Lib.hid (by simpa using (show fuse ≠ 0 by omega))
    rw [HFZ.out, if_neg (show ¬ 0 < fuse by omega)]
    have HFP := Lib.hid (show ¬ 0 < fuse by omega)
    clear hf
    have hlen : (S.map RowS.l).length = S.length := List.length_map _
    rw [hlen, Int.toNat_natCast]
    clear hlen
    go_enter Try.func60, Try.ntmps60
    go_wp2_with fail
    go_loopw [7] (fun i wr => ∃ k : Nat, k ≤ S.length ∧ i = .int .i64 k ∧ Below w.heap.size w wr) (fun i _ => S.length - (intOf i).toNat)
    case atStart => exact ⟨0, Nat.zero_le _, rfl, Below.refl _ _⟩
    case round =>
      obtain ⟨k, hk, rfl, hbw0⟩ := hrel
      by_cases hlt : k < S.length
      · have hlk : (k : Int) < (S.length : Int) := by omega
        have hgk : (0 : Int) ≤ (k : Int) := by omega
        obtain ⟨bb, o, hA, hbw, hcS⟩ := (HSL.out.below hbw0).rowS hlt
        rw [(HCS.out S[k] (List.getElem_mem hlt)).1] at hcS
        subst hA
        go_wp2_with fail
        go_roundw
        case rel => exact ⟨k + 1, by omega, by go_num, hbw0⟩
        case measure => simp [intOf]; omega
      · obtain rfl : k = S.length := by omega
        have hlk : ¬ ((S.length : Int) < (S.length : Int)) := by omega
        have hr1 : ¬ (q : Int) < 0 := by omega
        have hr1' : decide ((q : Int) < 0) = false := decide_eq_false hr1
        have hr2 : ¬ (C.length : Int) < (q : Int) := by omega
        have hr2' : decide ((C.length : Int) < (q : Int)) = false := decide_eq_false hr2
        have hwr : IntKind.i64.wrap ((C.length : Int) - (q : Int)) = (C.length : Int) - (q : Int) := by rw [IntKind.wrap_i64]; have := HCL.out; omega
        have hr3 : ¬ (C.length : Int) - (q : Int) < (S.length : Int) := by omega
        have hr3' : decide ((C.length : Int) - (q : Int) < (S.length : Int)) = false := decide_eq_false hr3
        have hn0 : ((S.length : Int) == 0) = false := by simpa using (by omega : (S.length : Int) ≠ 0)
        have HV := Lib.hid (HV.out.below hbw0)
        have HB0 := Lib.hid hbw0
        generalize wr = wq at *
        clear hbw0
        obtain ⟨q0, q1, q2, q3, q4, qs⟩ := HV.out.got
        simp only at q0 q1 q2 q3 q4 qs
        have f1 := HV.out.fz 1
        have f2 := HV.out.fz 2
        have f4 := HV.out.fz 4
        have hfz : (fuse == 0) = false := HFZ.out
        go_upto_region 14 with fail
        have h3 : RvA B (wq.setCell ⟨b, 4, none⟩ (.int .i64 (wrap64 (writes + 1)))) b (some ⟨g, 0, none⟩) c R KA kc ⟨C, false, fuse, keep, wrap64 (writes + 1)⟩ := HV.out.set 4 _ rfl rfl (by simp [Rv.cells])
        have h4 : RvA B ((wq.setCell ⟨b, 4, none⟩ (.int .i64 (wrap64 (writes + 1)))).setCell ⟨b, 1, none⟩ (.bool false)) b (some ⟨g, 0, none⟩) c R KA kc ⟨C, false, fuse, keep, wrap64 (writes + 1)⟩ := h3.set 1 _ rfl rfl (by simp [Rv.cells])
        have hc4 : ChgL (b :: (Value.slice (some ⟨g, 0, none⟩) C.length c).ownBlock.toList) w ((wq.setCell ⟨b, 4, none⟩ (.int .i64 (wrap64 (writes + 1)))).setCell ⟨b, 1, none⟩ (.bool false)) := ((ChgL.of_below HB0.out).trans (ChgL.set (l := b :: (Value.slice (some ⟨g, 0, none⟩) C.length c).ownBlock.toList) 4 _ (by simp)) (fun y hy => .inl hy)).trans (ChgL.set (l := b :: (Value.slice (some ⟨g, 0, none⟩) C.length c).ownBlock.toList) 1 _ (by simp)) (fun y hy => .inl hy)
        generalize (wq.setCell ⟨b, 4, none⟩ (.int .i64 (wrap64 (writes + 1)))).setCell ⟨b, 1, none⟩ (.bool false) = V at *
        have HV4 := Lib.hid h4
        have HC4 := Lib.hid hc4
        clear h3 h4 hc4 q0 q1 q2 q3 q4 qs f1 f2 f4 HV
        go_wp2_with fail
        go_loopw [8] (fun i wr => ∃ (k : Nat) (R2 : List (RowS Nat)), k ≤ S.length ∧ i = .int .i64 k ∧ Hid (ChgL (b :: (Value.slice (some ⟨g, 0, none⟩) C.length c).ownBlock.toList) w wr) ∧ Hid (RvA B wr b (some ⟨g, 0, none⟩) c R2 KA kc ⟨putK false keep q (S.map RowS.l) k C, false, fuse, keep, wrap64 (writes + 1)⟩)) (fun i _ => S.length - (intOf i).toNat)
        case atStart => exact ⟨0, R, Nat.zero_le _, rfl, HC4, HV4⟩
        case round =>
          clear HC4 HV4
          obtain ⟨k, R2, hk, rfl, HCX, HRV⟩ := hrel
          obtain ⟨p0, p1, p2, p3, p4, ps⟩ := HRV.out.got
          simp only at p0 p1 p2 p3 p4 ps
          rw [putK_len] at p0
          by_cases hlt2 : k < S.length
          · have hlk : (k : Int) < (S.length : Int) := by omega
            have hgk : (0 : Int) ≤ (k : Int) := by omega
            obtain ⟨bb, o, hA, hbw, hcS⟩ := (HSS.out _ HCX.out).1.sl.rowS hlt2
            subst hA
            have hgq : (0 : Int) ≤ (q : Int) + (k : Int) := by omega
            have HQK := Lib.hid (show q + k < C.length by omega)
            have HKL := Lib.hid hlt2
            have hgq2 : (q : Int) + (k : Int) < (C.length : Int) := by omega
            have hwq : IntKind.i64.wrap ((q : Int) + (k : Int)) = (q : Int) + (k : Int) := by rw [IntKind.wrap_i64]; have := HCL.out; omega
            go_wp2_with fail
            have hslS := ((HSS.out _ HCX.out).2 _ (List.getElem_mem hlt2))
            have HSK := Lib.hid hslS
            have h96 := HCS.out _ (List.getElem_mem hlt2)
            have HS96 := Lib.hid h96
            rw [h96.1] at hcS
            obtain ⟨rk, hrk⟩ : ∃ rk, S[k]'hlt2 = rk := ⟨_, rfl⟩
            rw [hrk] at hcS HSK HS96
            have HRK := Lib.hid hrk
            clear hslS h96 hrk
            go_upto_region 19 with fail
            have hbd : Below wr.heap.size wr wr.drew := (Below.refl _ _).drew
            have hgbb : bb ≠ g := fun e => by
              have h9 := ((HSS.out _ HCX.out).1.2 _ rfl (fun h => by have h8 := congrArg List.length h; rw [rc_length RowS.len, Nat.mul_one] at h8; have h7 : S.length = 0 := h8; omega)).2
              exact h9 (by rw [e]; simp [Value.ownBlock])
            have hgb : b ≠ g := fun e => HRV.out.off HRV.out.own (by decide) (by rw [e]; rfl)
            have HRX := Lib.hid (HRV.out.below hbd)
            have HCY := Lib.hid (HCX.out.step hbd)
            have HSL2 := Lib.hid (HSK.out.below hbd).sl
            have HNE := Lib.hid (show bb ≠ g ∧ b ≠ g from ⟨hgbb, hgb⟩)
            have hst : (wr.drew).cell? ⟨b, 0, none⟩ = some (.slice (some ⟨g, 0, none⟩) C.length c) ∧ (wr.drew).cell? ⟨bb, o + k, none⟩ = some (.slice rk.A 96 rk.c) ∧ b < (wr.drew).heap.size ∧ bb < (wr.drew).heap.size := ⟨p0, hcS, ps, hbw⟩
            have HST := Lib.hid hst
            clear hbd hgbb hgb p0 p1 p2 p3 p4 ps hcS hst
            refine wp_region_held_drew (S := (fun V => V.cell? ⟨b, 0, none⟩ = some (.slice (some ⟨g, 0, none⟩) C.length c) ∧ V.cell? ⟨bb, o + k, none⟩ = some (.slice rk.A 96 rk.c) ∧ b < V.heap.size ∧ bb < V.heap.size)) (by kernel_rfl) (by exact HST.out) (fun hHeld => ?_)
            refine tkJ 0 87 rfl (by intro w; go_simp <;> with_reducible rfl) hHeld ?_; simp only [pqZ]
            refine tkJ 1 88 rfl (by intro w; go_simp <;> with_reducible rfl) hHeld ?_; simp only [pqZ]
            refine tkJ 2 89 rfl (by intro w; go_simp <;> with_reducible rfl) hHeld ?_; simp only [pqZ]
            refine tkI 3 90 rfl (by intro w hSw; obtain ⟨z0, z1, zs, zt⟩ := (hSw); go_simp <;> with_reducible rfl) hHeld ?_; simp only [pqZ]
            refine tkJ 4 91 rfl (by intro w; go_simp <;> with_reducible rfl) hHeld ?_; simp only [pqZ]
            refine tkJ 5 92 rfl (by intro w; go_simp <;> with_reducible rfl) hHeld ?_; simp only [pqZ]
            refine tkJ 6 93 rfl (by intro w; go_simp <;> with_reducible rfl) hHeld ?_; simp only [pqZ]
            refine tkJ 7 94 rfl (by intro w; go_simp <;> with_reducible rfl) hHeld ?_; simp only [pqZ]
            refine tkJ 8 95 rfl (by intro w; go_simp <;> with_reducible rfl) hHeld ?_; simp only [pqZ]
            refine tkJ 9 96 rfl (by intro w; go_simp <;> with_reducible rfl) hHeld ?_; simp only [pqZ]
            refine tkJ 10 97 rfl (by intro w; go_simp <;> with_reducible rfl) hHeld ?_; simp only [pqZ]
            refine tkI 11 98 rfl (by intro w hSw; obtain ⟨z0, z1, zs, zt⟩ := (hSw); go_simp <;> with_reducible rfl) hHeld ?_; simp only [pqZ]
            refine rdZ 12 99 rfl (by kernel_rfl) (fun K hK => ?_)
            refine step_app2 rfl (.tmp 94) (.tmp 98) rfl EF8 (n := 0) (m := 96) (c := 0) (d := rk.c) (A := none) (B := rk.A) (by simp [Act.eval, Act.put]; done) (by simp [Act.eval, Act.put]; done) (own_nil (wr.drew).heap.size _ _) (news := by8 rk.l) (by rw [by8_length, HS96.out.1]) (by decide) HSL2.out (by8_one _) (by unfold maxLen; decide) (by decide) (Nat.le_refl _) ?_
            intro A5 c5 w5 own5 hg5 hv5 hb5
            simp only [Nat.zero_add, List.nil_append] at own5 ⊢
            have hKeep : (fun V => V.cell? ⟨b, 0, none⟩ = some (.slice (some ⟨g, 0, none⟩) C.length c) ∧ V.cell? ⟨bb, o + k, none⟩ = some (.slice rk.A 96 rk.c) ∧ b < V.heap.size ∧ bb < V.heap.size) w5 := ⟨(hb5.cell (p := ⟨b, 0, none⟩) HST.out.2.2.1).trans HST.out.1, (hb5.cell (p := ⟨bb, o + k, none⟩) HST.out.2.2.2).trans HST.out.2.1, Nat.lt_of_lt_of_le HST.out.2.2.1 hb5.size, Nat.lt_of_lt_of_le HST.out.2.2.2 hb5.size⟩
            have HR5 := Lib.hid (HRX.out.below hb5)
            have HC5 := Lib.hid (HCY.out.step hb5)
            have hown5 := own_base own5 (Nat.le_trans HBB.out HCY.out.size)
            rw [HS96.out.1.symm] at hown5
            have HO5 := Lib.hid hown5
            clear own5 hg5 hv5 hb5 hown5
            refine hK.out _ _ (by (try dsimp only); exact hKeep) (fun hHeld => ?_); clear hK K hKeep; try simp only [pqZ]
            refine tkJ 13 100 rfl (by intro w; go_simp <;> with_reducible rfl) hHeld ?_; simp only [pqZ]
            refine wpAnyH_ready (rs := [14]) (by kernel_rfl) (by simp) ?_
            refine AllReadyH.cons (o := ⟨none, _, _, _, _, _⟩) rfl (fun K hK => ?_) AllReadyH.nil
            have hHd := hHeld
            obtain ⟨z0, z1, zs, zt⟩ := (hHd)
            have hto : ((q : Int) + (k : Int)).toNat = q + k := by omega
            obtain ⟨u5, hcell5, hfz5, hlt5, hsz5⟩ := cell_own HR5.out.own (k := q + k) (by simp only; rw [putK_len]; exact HQK.out)
            have hKeep : (fun V => V.cell? ⟨b, 0, none⟩ = some (.slice (some ⟨g, 0, none⟩) C.length c) ∧ V.cell? ⟨bb, o + k, none⟩ = some (.slice rk.A 96 rk.c) ∧ b < V.heap.size ∧ bb < V.heap.size) (w5.setCell ⟨g, q + k, none⟩ (.slice A5 96 c5)) := ⟨by rw [cell_blk (set_far _ (show b ≠ (⟨g, q + k, none⟩ : Addr).block from HNE.out.2))]; exact z0, by rw [cell_blk (set_far _ (show bb ≠ (⟨g, q + k, none⟩ : Addr).block from HNE.out.1))]; exact z1, by simpa using zs, by simpa using zt⟩
            have hfin := HR5.out.put (q := q + k) (by simp only; rw [putK_len]; exact HQK.out) (r := ⟨A5, c5, rk.l⟩) HO5.out HS96.out.1 HS96.out.2
            rw [show (⟨A5, c5, rk.l⟩ : RowS Nat).l.length = 96 from HS96.out.1] at hfin
            have HFN := Lib.hid hfin
            have HC6 : Hid (ChgL (b :: (Value.slice (some ⟨g, 0, none⟩) C.length c).ownBlock.toList) w (w5.setCell ⟨g, q + k, none⟩ (.slice A5 96 c5))) := Lib.hid (HC5.out.trans (ChgL.set (l := b :: (Value.slice (some ⟨g, 0, none⟩) C.length c).ownBlock.toList) (q + k) _ (by simp [Value.ownBlock])) (fun y hy => .inl hy))
            clear hfin z0 z1 zs zt
            go_simp
            refine hK.out _ _ (by (try dsimp only); exact hKeep) (fun hHeld => ?_); clear hK K hKeep; try simp only [pqZ]
            refine wpAnyH_done (by kernel_rfl) ?_ _
            go_wp2_with fail
            have HFIN := HFN
            go_roundw
            case rel => exact ⟨k + 1, R2.set (q + k) ⟨A5, c5, rk.l⟩, by omega, by go_num, HC6, Lib.hid (by have h9 := HFIN.out; rw [show putK false keep q (S.map RowS.l) (k + 1) C = (putK false keep q (S.map RowS.l) k C).set (q + k) rk.l from by rw [putK, if_pos (by first | rfl | (rw [HHIT.out]; rfl)), List.getD_eq_getElem?_getD, List.getElem?_map, List.getElem?_eq_getElem HKL.out, HRK.out]; rfl]; exact h9)⟩
            case measure => simp [intOf]; have := HKL.out; omega
          · obtain rfl : k = S.length := by omega
            have hlk : ¬ ((S.length : Int) < (S.length : Int)) := by omega
            have hlf := HFP.out
            go_wp2_with fail
            go_ret
            exact ⟨rfl, ⟨R2, HRV.out⟩, HCX.out⟩
end
end Go.Proofs.Ytiggcpfmmgmncaa
