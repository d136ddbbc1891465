/-
  The walks of layer 23, fifteenth part: the document's New, whole, and Turn.
-/
import Derived.Test.YtaaknohoaijfhaaGive14
namespace Go.Proofs.Ytaaknohoaijfhaa
open Go.ChangeShapes Go.WideShapes Go.ChangeAt Go.RowKit
set_option linter.unusedVariables false
set_option linter.unusedSimpArgs false

theorem rnew_any (A : Option Addr) (cap : Nat) (l : List Gv) (g : Gv) (day : Int) (w : World) (h : GL w A cap l) :
    Calls Try.prog 24 #[.slice A l.length cap, g.val, .int .i64 day] w fun e w' => newR w' e l g day ∧ Below w.heap.size w w' := by
  obtain ⟨h1, h2, h3, h4, h5⟩ := h
  by_cases hE : newE l g day = 0
  · cases l with
    | nil => obtain ⟨rfl, rfl⟩ := h1 rfl; exact rnew_first g day w hE
    | cons a m => exact rnew_more A cap _ g day w (by simp) h5 h4 hE
  · exact rnew_bad A cap l g day w (by omega) h5 hE

theorem gone (g : Gv) : ∀ u ∈ g.cells, u.oneCell' = true := fun u hu => gcells_one [g] u (by simpa [gcells] using hu)

set_option maxRecDepth 100000 in
set_option maxHeartbeats 4000000 in
theorem rturn_any (A : Option Addr) (cap : Nat) (l : List Gv) (id st : Int) (w : World) (hl : l.length ≤ 1000) (hs : Sl w A (gcells l)) :
    Calls Try.prog 27 #[.slice A l.length cap, .int .i64 id, .int .i64 st] w fun e w' => rowE w' e (turnE l id st) l.length (turnL l id st) ∧ Below w.heap.size w w' := by
  have hcs := @cell_set
  rcases gAt_cases l id with ⟨h0, hno⟩ | ⟨k, hk, h0, hid, hno⟩
  · have HV := Lib.hid (show findV l id = .tuple #[.agg #[.int .i64 0, .int .i64 0, .int .i64 0, .int .i64 0, .int .i64 0, .int .i64 0, .int .i64 0, .int .i64 0, .int .i64 0, .int .i64 0, .int .i64 0], .bool false] from findV_none h0)
    rw [show turnE l id st = 11 from if_pos h0]
    clear h0 hno
    go_enter Try.func27, Try.ntmps27
    go_wp2_with fail
    refine (rfind_any A cap l id _ (by omega) hs).mono ?_
    rintro e w1 ⟨rfl, hb1⟩
    rw [HV.out]
    go_wp2_with fail
    go_ret2
    exact ⟨.inl ⟨by decide, rfl⟩, since_alloc hb1 _⟩
  · have hget : l.getD (gAt l id).toNat ⟨0, 0, 0, 0, 0, 0, 0, 0, 0, 0, 0⟩ = l[k] := by rw [h0]; simp [List.getD, hk]
    have hfv := findV_some hk h0
    have hT : ∀ j, (h1 : j < (turnL l id st).length) → (h2 : j < l.length) → (turnL l id st)[j] = if k = j then { l[k] with st := st } else l[j] := by
      intro j h1 h2
      rw [turnL_get l id st j h1 h2, hget, h0]
      simp
    have hlen : (turnL l id st).length = l.length := by unfold turnL; simp
    have hE : turnE l id st = if st < 2 ∨ 5 < st then 2 else if l[k].st ≠ 1 then 13 else 0 := by unfold turnE; rw [if_neg (by omega), hget]
    rw [hE]
    generalize turnL l id st = T at *
    have HT := Lib.hid hT
    have HLEN := Lib.hid hlen
    clear hget h0 hT hlen hE
    generalize hgk : l[k] = gk at *
    obtain ⟨gid, fa, fc, ta, tc, inst, qty, price, grp, gday, gst⟩ := gk
    have HV := Lib.hid (show findV l id = .tuple #[.agg #[.int .i64 gid, .int .i64 fa, .int .i64 fc, .int .i64 ta, .int .i64 tc, .int .i64 inst, .int .i64 qty, .int .i64 price, .int .i64 grp, .int .i64 gday, .int .i64 gst], .bool true] from hfv)
    have HGK := Lib.hid hgk
    have HNO := Lib.hid hno
    dsimp only at hid ⊢
    clear hfv hgk hno
    by_cases hst : st < 2 ∨ 5 < st
    · rw [if_pos hst]
      clear hid
      go_enter Try.func27, Try.ntmps27
      go_wp2_with fail
      refine (rfind_any A cap l id _ (by omega) hs).mono ?_
      rintro e w1 ⟨rfl, hb1⟩
      rw [HV.out]
      rcases hst with hst | hst
      · go_wp2_with fail
        go_ret2
        exact ⟨.inl ⟨by decide, rfl⟩, since_alloc hb1 _⟩
      · go_wp2_with fail
        go_ret2
        exact ⟨.inl ⟨by decide, rfl⟩, since_alloc hb1 _⟩
    · rw [if_neg hst]
      by_cases hs1 : gst = 1
      · rw [if_neg (by omega)]
        subst hs1
        go_enter Try.func27, Try.ntmps27
        go_wp2_with fail
        refine (rfind_any A cap l id _ (by omega) hs).mono ?_
        rintro e w1 ⟨rfl, hb1⟩
        rw [HV.out]
        have hB1 := since_alloc hb1 (.cells #[.int .i64 gid, .int .i64 fa, .int .i64 fc, .int .i64 ta, .int .i64 tc, .int .i64 inst, .int .i64 qty, .int .i64 price, .int .i64 grp, .int .i64 gday, .int .i64 1] 43)
        clear hb1
        go_wp2_with fail
        go_loopw [10, 11, 12] (fun v d i wr => ∃ (j : Nat) (A' : Option Addr) (c' : Nat), j ≤ l.length ∧ i = .int .i64 j ∧ v = .slice A' j c' ∧ d = .bool (decide (k < j)) ∧ wr.ownsRow w.heap.size 43 11 (.slice A' j c') j (gcells (T.take j)) ∧ Below w.heap.size w wr) (fun _ _ i _ => l.length - (intOf i).toNat)
        case atStart => exact ⟨0, none, 0, by omega, rfl, rfl, by simp, own_nil _ _ _, hB1⟩
        case round =>
          obtain ⟨j, A', c', hj, rfl, rfl, rfl, hown, hB⟩ := hrel
          by_cases hlt : j < l.length
          · obtain ⟨b, o, rfl, hbw, hg⟩ := hs.give hlt
            have hg1 := hg.keep (w' := wr) fun i => hB.cell (p := ⟨b, i, none⟩) hbw
            have hbr : b < wr.heap.size := Nat.lt_of_lt_of_le hbw hB.size
            have hjT : j < T.length := by rw [HLEN.out]; exact hlt
            have hsn := take_snoc T j hjT
            rw [HT.out j hjT hlt] at hsn
            have HGJ := fun h : k = j => (show l[j] = _ from by subst h; exact HGK.out)
            have HIJ := fun h : j < k => (show (l[j].id == id) = false from HNO.out j h)
            generalize l[j] = y at *
            obtain ⟨yid, yfa, yfc, yta, ytc, yinst, yqty, yprice, ygrp, yday, yst⟩ := y
            obtain ⟨p0, p1, p2, p3, p4, p5, p6, p7, p8, p9, p10⟩ := hg1
            dsimp only at p0 p1 p2 p3 p4 p5 p6 p7 p8 p9 p10
            clear hg
            rcases Nat.lt_trichotomy j k with hlt3 | heq | hgt
            · have hd : decide (k < j) = false := by simp; omega
              have hdn : decide (k < j + 1) = false := by simp; omega
              have hq : (yid == id) = false := HIJ hlt3
              rw [if_neg (by omega)] at hsn
              have HSN := Lib.hid hsn
              have HDN := Lib.hid hdn
              clear hsn HGJ HIJ hdn
              rw [hd]
              clear hd
              go_wp2_with (first
                | (at_builtin; refine wpList_app rfl (.tmp 51) (.tmp 53) rfl EG rfl rfl ((hown.alloc _).alloc _) (m := 1) (news := Gv.cells ⟨yid, yfa, yfc, yta, ytc, yinst, yqty, yprice, ygrp, yday, yst⟩) rfl (Sl.new1 _ _ _ _) (gone ⟨yid, yfa, yfc, yta, ytc, yinst, yqty, yprice, ygrp, yday, yst⟩) (by unfold maxLen; omega) (by omega) (by have := hB.size; simp; omega) ?_; intro A2 c2 w2 hown2 hg2 hb2)
                | fail)
              go_roundw
              case rel =>
                refine ⟨j + 1, A2, c2, by omega, by go_num, rfl, by rw [HDN.out], ?_, (since_alloc (since_alloc hB _) _).trans hb2⟩
                rw [HSN.out, gcells_append]
                simpa [gcells] using hown2
              case measure => simp [intOf]; omega
            · subst heq
              have hd : decide (j < j) = false := by simp
              have e := HGJ rfl
              injection e with e0 e1 e2 e3 e4 e5 e6 e7 e8 e9 e10
              subst e0; subst e1; subst e2; subst e3; subst e4; subst e5; subst e6; subst e7; subst e8; subst e9; subst e10
              have hdn : decide (j < j + 1) = true := by simp
              rw [if_pos rfl] at hsn
              have HSN := Lib.hid hsn
              have HDN := Lib.hid hdn
              clear hsn HGJ HIJ hdn
              rw [hd]
              clear hd
              go_wp2_with (first
                | (at_builtin; refine wpList_app rfl (.tmp 51) (.tmp 53) rfl EG rfl rfl ((hown.alloc _).alloc _) (m := 1) (news := Gv.cells ⟨yid, yfa, yfc, yta, ytc, yinst, yqty, yprice, ygrp, yday, st⟩) rfl (Sl.new1 _ _ _ _) (gone ⟨yid, yfa, yfc, yta, ytc, yinst, yqty, yprice, ygrp, yday, st⟩) (by unfold maxLen; omega) (by omega) (by have := hB.size; simp; omega) ?_; intro A2 c2 w2 hown2 hg2 hb2)
                | fail)
              go_roundw
              case rel =>
                refine ⟨j + 1, A2, c2, by omega, by go_num, rfl, by rw [HDN.out], ?_, (since_alloc (since_alloc hB _) _).trans hb2⟩
                rw [HSN.out, gcells_append]
                simpa [gcells] using hown2
              case measure => simp [intOf]; omega
            · have hd : decide (k < j) = true := by simp; omega
              have hdn : decide (k < j + 1) = true := by simp; omega
              rw [if_neg (by omega)] at hsn
              have HSN := Lib.hid hsn
              have HDN := Lib.hid hdn
              clear hsn HGJ HIJ hdn
              rw [hd]
              clear hd
              cases hq : (yid == id)
              all_goals
                go_wp2_with (first
                  | (at_builtin; refine wpList_app rfl (.tmp 51) (.tmp 53) rfl EG rfl rfl ((hown.alloc _).alloc _) (m := 1) (news := Gv.cells ⟨yid, yfa, yfc, yta, ytc, yinst, yqty, yprice, ygrp, yday, yst⟩) rfl (Sl.new1 _ _ _ _) (gone ⟨yid, yfa, yfc, yta, ytc, yinst, yqty, yprice, ygrp, yday, yst⟩) (by unfold maxLen; omega) (by omega) (by have := hB.size; simp; omega) ?_; intro A2 c2 w2 hown2 hg2 hb2)
                  | fail)
                go_roundw
                case rel =>
                  refine ⟨j + 1, A2, c2, by omega, by go_num, rfl, by rw [HDN.out], ?_, (since_alloc (since_alloc hB _) _).trans hb2⟩
                  rw [HSN.out, gcells_append]
                  simpa [gcells] using hown2
                case measure => simp [intOf]; omega
          · obtain rfl : j = l.length := by omega
            rw [List.take_of_length_le (by rw [HLEN.out]; omega)] at hown
            go_wp2_with fail
            go_ret2
            exact ⟨.inr ⟨rfl, A', c', rfl, own_cap hown, Sl.of_own hown⟩, hB⟩
      · rw [if_pos hs1]
        clear hid
        have hs2 : (gst != 1) = true := by simpa using hs1
        go_enter Try.func27, Try.ntmps27
        go_wp2_with fail
        refine (rfind_any A cap l id _ (by omega) hs).mono ?_
        rintro e w1 ⟨rfl, hb1⟩
        rw [HV.out]
        go_wp2_with fail
        go_ret2
        exact ⟨.inl ⟨by decide, rfl⟩, since_alloc hb1 _⟩
end Go.Proofs.Ytaaknohoaijfhaa
