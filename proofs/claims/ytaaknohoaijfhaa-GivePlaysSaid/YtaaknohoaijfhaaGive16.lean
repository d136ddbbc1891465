/-
  The walks of layer 23, sixteenth part: GivePlays.
-/
import Derived.Test.YtaaknohoaijfhaaGive15
import Derived.Deep.CutRange
import Derived.Deep.CutBlock
import Derived.Deep.DeepCutAuto
import Derived.Deep.RegionHeld3
namespace Go.Proofs.Ytaaknohoaijfhaa
open Go.ChangeShapes Go.WideShapes Go.ChangeAt Go.RowKit
set_option linter.unusedVariables false
set_option linter.unusedSimpArgs false

/-- the box of the unit that is asked for -/
def UB (w : World) (g : Nat) (ua uc : Int) : Prop := g < w.heap.size ∧ w.cell? ⟨g, 0, none⟩ = some (.int .i64 ua) ∧ w.cell? ⟨g, 1, none⟩ = some (.int .i64 uc)
theorem UB.below {w w' : World} {g : Nat} {ua uc : Int} (h : UB w g ua uc) (hb : Below w.heap.size w w') : UB w' g ua uc :=
  ⟨Nat.lt_of_lt_of_le h.1 hb.size, (hb.cell (p := ⟨g, 0, none⟩) h.1).trans h.2.1, (hb.cell (p := ⟨g, 1, none⟩) h.1).trans h.2.2⟩
theorem DAt.below {w w' : World} {b o : Nat} {d : Dv} (h : DAt w b o d) (hlt : b < w.heap.size) (hb : Below w.heap.size w w') : DAt w' b o d := h.keep fun i => hb.cell (p := ⟨b, i, none⟩) hlt
theorem sameIds_eq (A B : Option Addr) (ca cb : Nat) (a : List Int) (w : World) (ha : a.length ≤ 1000000) (hs : Sl w A (ints .i64 a)) (ht : Sl w B (ints .i64 a)) :
    Calls Try.prog 30 #[.slice A a.length ca, .slice B a.length cb] w fun e w' => e = .returned (.bool true) ∧ Below w.heap.size w w' :=
  (sameIds_any A B ca cb a a w ha hs ht).mono fun e w' ⟨h, hb⟩ => ⟨by rw [h]; simp, hb⟩
theorem findV_form (l : List Gv) (id : Int) : ∃ f0 f1 f2 f3 f4 f5 f6 f7 f8 f9 f10 bb, findV l id = .tuple #[.agg #[.int .i64 f0, .int .i64 f1, .int .i64 f2, .int .i64 f3, .int .i64 f4, .int .i64 f5, .int .i64 f6, .int .i64 f7, .int .i64 f8, .int .i64 f9, .int .i64 f10], .bool bb] := ⟨_, _, _, _, _, _, _, _, _, _, _, _, rfl⟩

set_option maxRecDepth 100000 in
set_option maxHeartbeats 16000000 in
theorem walk_GivePlays (a0 : Option Addr) (n0 c0 : Nat) (a1 : Array Value) (w : World) (w0 : Rd w (.sl (.cat (.int .i64) (.cat (.int .i64) (.cat (.int .i64) (.cat (.int .i64) (.cat (.cat (.int .i64) (.cat (.cat (.int .i64) (.cat (.int .i64) .nil)) (.cat (.cat (.int .i64) (.cat (.int .i64) .nil)) (.cat (.cat (.int .i64) (.cat (.int .i64) .nil)) (.cat (.int .i64) (.cat (.int .i64) (.cat (.int .i64) (.cat (.int .i64) .nil)))))))) .nil)))))) [.slice a0 n0 c0]) (w1 : Rd w (.cat (.int .i64) (.cat (.int .i64) .nil)) a1.toList) :
    Calls Try.prog 7 #[.slice a0 n0 c0, .agg a1] w fun e w' => e = .returned (.bool true) ∧ Below w.heap.size w w' := by
  obtain ⟨D, rfl, hc0, hcm, hd⟩ := rd_do (by decide) w0
  obtain ⟨ul, hul, hu⟩ := rd_flat _ 2 _ (by rfl) w1
  obtain ⟨ua, uc, rfl⟩ : ∃ ua uc, ul = [ua, uc] := by
    match ul, hul with
    | [x, y], _ => exact ⟨x, y, rfl⟩
  obtain rfl : a1 = #[.int .i64 ua, .int .i64 uc] := by
    apply Array.ext'
    rw [hu]
    rfl
  clear w0 w1 hu hul
  go_enter Try.func7, Try.ntmps7
  go_wp2
  go_loopw [5, 6, 7] (fun va vb i wr => ∃ (k : Nat) (A : Option Addr) (ca : Nat) (B : Option Addr) (cb : Nat) (l : List Gv), k ≤ D.length ∧ i = .int .i64 (k : Nat) ∧ va = .slice A (List.length l) ca ∧ vb = .slice B (List.length l) cb ∧ GL wr A ca l ∧ GL wr B cb l ∧ Below w.heap.size w wr ∧ UB wr w.heap.size ua uc) (fun _ _ i _ => D.length - (intOf i).toNat)
  case atStart => exact ⟨0, none, 0, none, 0, [], by omega, rfl, rfl, rfl, GL.nil _, GL.nil _, since_alloc (Below.refl _ _) _, by simp [UB]⟩
  case round =>
    obtain ⟨k, A, ca, B, cb, l, hk, rfl, rfl, rfl, hLa, hLb, hB, hU⟩ := hrel
    by_cases hlt : k < D.length ∧ k < 90
    · obtain ⟨hlt, h90⟩ := hlt
      obtain ⟨b, o, rfl, hbw, hd1⟩ := hd.dos hlt
      have hd2 := hd1.keep (w' := wr) fun i => hB.cell (p := ⟨b, i, none⟩) hbw
      have hbr : b < wr.heap.size := Nat.lt_of_lt_of_le hbw hB.size
      have HD := Lib.hid hd
      clear hd
      generalize D[k] = d at *
      clear hd1
      obtain ⟨kind, day, id, st, ⟨gid, fa, fc, ta, tc, inst, qty, price, grp, gday, gst⟩⟩ := d
      obtain ⟨d0, d1, d2, d3, d4, d5, d6, d7, d8, d9, d10, d11, d12, d13, d14⟩ := hd2
      dsimp only at d0 d1 d2 d3 d4 d5 d6 d7 d8 d9 d10 d11 d12 d13 d14
      go_upto_block 2 with fail
      have E0 : DAt (wr.alloc (.cells #[.int .i64 kind, .int .i64 day, .int .i64 id, .int .i64 st, .int .i64 gid, .int .i64 fa, .int .i64 fc, .int .i64 ta, .int .i64 tc, .int .i64 inst, .int .i64 qty, .int .i64 price, .int .i64 grp, .int .i64 gday, .int .i64 gst] 45)) wr.heap.size 0 ⟨kind, day, id, st, ⟨gid, fa, fc, ta, tc, inst, qty, price, grp, gday, gst⟩⟩ := by simp [DAt]
      have hz0 : wr.heap.size < (wr.alloc (.cells #[.int .i64 kind, .int .i64 day, .int .i64 id, .int .i64 st, .int .i64 gid, .int .i64 fa, .int .i64 fc, .int .i64 ta, .int .i64 tc, .int .i64 inst, .int .i64 qty, .int .i64 price, .int .i64 grp, .int .i64 gday, .int .i64 gst] 45)).heap.size := by simp
      have LA := hLa.alloc (.cells #[.int .i64 kind, .int .i64 day, .int .i64 id, .int .i64 st, .int .i64 gid, .int .i64 fa, .int .i64 fc, .int .i64 ta, .int .i64 tc, .int .i64 inst, .int .i64 qty, .int .i64 price, .int .i64 grp, .int .i64 gday, .int .i64 gst] 45)
      have LB := hLb.alloc (.cells #[.int .i64 kind, .int .i64 day, .int .i64 id, .int .i64 st, .int .i64 gid, .int .i64 fa, .int .i64 fc, .int .i64 ta, .int .i64 tc, .int .i64 inst, .int .i64 qty, .int .i64 price, .int .i64 grp, .int .i64 gday, .int .i64 gst] 45)
      have BW := since_alloc hB (.cells #[.int .i64 kind, .int .i64 day, .int .i64 id, .int .i64 st, .int .i64 gid, .int .i64 fa, .int .i64 fc, .int .i64 ta, .int .i64 tc, .int .i64 inst, .int .i64 qty, .int .i64 price, .int .i64 grp, .int .i64 gday, .int .i64 gst] 45)
      have UW := hU.below ((Below.refl _ _).alloc (Nat.le_refl _) (.cells #[.int .i64 kind, .int .i64 day, .int .i64 id, .int .i64 st, .int .i64 gid, .int .i64 fa, .int .i64 fc, .int .i64 ta, .int .i64 tc, .int .i64 inst, .int .i64 qty, .int .i64 price, .int .i64 grp, .int .i64 gday, .int .i64 gst] 45))
      clear d0 d1 d2 d3 d4 d5 d6 d7 d8 d9 d10 d11 d12 d13 d14 hLa hLb hB hU hbr
      generalize wr.alloc (.cells #[.int .i64 kind, .int .i64 day, .int .i64 id, .int .i64 st, .int .i64 gid, .int .i64 fa, .int .i64 fc, .int .i64 ta, .int .i64 tc, .int .i64 inst, .int .i64 qty, .int .i64 price, .int .i64 grp, .int .i64 gday, .int .i64 gst] 45) = W0 at *
      generalize wr.heap.size = g8 at *
      generalize hd : (⟨kind, day, id, st, ⟨gid, fa, fc, ta, tc, inst, qty, price, grp, gday, gst⟩⟩ : Dv) = d at *
      go_cut [5, 6] (fun va vb wc => ∃ (A : Option Addr) (ca : Nat) (B : Option Addr) (cb : Nat) (l : List Gv), va = .slice A (List.length l) ca ∧ vb = .slice B (List.length l) cb ∧ GL wc A ca l ∧ GL wc B cb l ∧ Below w.heap.size w wc ∧ UB wc w.heap.size ua uc ∧ DAt wc g8 0 d ∧ g8 < wc.heap.size)
      case first =>
        obtain ⟨e0, e1, e2, e3, e4, e5, e6, e7, e8, e9, e10, e11, e12, e13, e14⟩ := _root_.id E0
        rw [← hd] at e0 e1 e2 e3 e4 e5 e6 e7 e8 e9 e10 e11 e12 e13 e14
        dsimp only at e0 e1 e2 e3 e4 e5 e6 e7 e8 e9 e10 e11 e12 e13 e14
        simp only [Nat.zero_add] at e0 e1 e2 e3 e4 e5 e6 e7 e8 e9 e10 e11 e12 e13 e14
        cases hkind : (kind == 0)
        rotate_left
        · by_cases hE : newE l ⟨gid, fa, fc, ta, tc, inst, qty, price, grp, gday, gst⟩ day = 0
          · go_wp2_with fail
            refine (new_any A ca l ⟨gid, fa, fc, ta, tc, inst, qty, price, grp, gday, gst⟩ day _ LA).mono ?_
            rintro e w1 ⟨hr, hb1⟩
            have BW1 := since_step BW hb1
            have UW1 := UW.below hb1
            have E1 := E0.below hz0 hb1
            have hz1 := Nat.lt_of_lt_of_le hz0 hb1.size
            have LA1 := LA.below hb1
            have LB1 := LB.below hb1
            clear e0 e1 e2 e3 e4 e5 e6 e7 e8 e9 e10 e11 e12 e13 e14
            clear hb1 E0 BW UW LA hz0
            rcases hr with ⟨hne, _⟩ | ⟨_, A1, c1, rfl, hc1, hs1⟩
            · exact absurd hE hne
            have hG := GL.new hE LA1.2.2.2.1 hc1 hs1
            obtain ⟨t0, t1, t2, t3, t4, t5, t6, t7, t8, t9, t10, t11, t12, t13, t14⟩ := _root_.id E1
            rw [← hd] at t0 t1 t2 t3 t4 t5 t6 t7 t8 t9 t10 t11 t12 t13 t14
            dsimp only at t0 t1 t2 t3 t4 t5 t6 t7 t8 t9 t10 t11 t12 t13 t14
            simp only [Nat.zero_add] at t0 t1 t2 t3 t4 t5 t6 t7 t8 t9 t10 t11 t12 t13 t14
            go_wp2_with fail
            refine (rnew_any B cb l ⟨gid, fa, fc, ta, tc, inst, qty, price, grp, gday, gst⟩ day _ LB1).mono ?_
            rintro e w2 ⟨hr, hb2⟩
            have BW2 := since_step BW1 hb2
            have UW2 := UW1.below hb2
            have E2 := E1.below hz1 hb2
            have hz2 := Nat.lt_of_lt_of_le hz1 hb2.size
            have LA2 := LA1.below hb2
            have LB2 := LB1.below hb2
            have hG2 := hG.below hb2
            clear t0 t1 t2 t3 t4 t5 t6 t7 t8 t9 t10 t11 t12 t13 t14
            clear hb2 E1 BW1 UW1 LA1 LB1 hz1
            rcases hr with ⟨hne, _⟩ | ⟨_, A2, c2, rfl, hc2, hs2⟩
            · exact absurd hE hne
            have hH := GL.new hE LB2.2.2.2.1 hc2 hs2
            have hlen : l.length + 1 = (l ++ [newG l ⟨gid, fa, fc, ta, tc, inst, qty, price, grp, gday, gst⟩ day]).length := by simp
            clear hs1 hs2 hc1 hc2 hE LA2 LB2 hG
            generalize l ++ [newG l ⟨gid, fa, fc, ta, tc, inst, qty, price, grp, gday, gst⟩ day] = N at *
            rw [hlen]
            clear hlen
            have h64 := hG2.2.2.1
            go_wp2_with fail
            refine (rsame_any A1 A2 c1 c2 N _ (by omega) hG2.2.2.2.2 hH.2.2.2.2).mono ?_
            rintro e w3 ⟨rfl, hb3⟩
            go_wp2_with fail
            go_meet
            case rel => exact ⟨A1, c1, A2, c2, N, rfl, rfl, hG2.below hb3, hH.below hb3, since_step BW2 hb3, UW2.below hb3, E2.below hz2 hb3, Nat.lt_of_lt_of_le hz2 hb3.size⟩
          · go_wp2_with fail
            refine (new_any A ca l ⟨gid, fa, fc, ta, tc, inst, qty, price, grp, gday, gst⟩ day _ LA).mono ?_
            rintro e w1 ⟨hr, hb1⟩
            have BW1 := since_step BW hb1
            have UW1 := UW.below hb1
            have E1 := E0.below hz0 hb1
            have hz1 := Nat.lt_of_lt_of_le hz0 hb1.size
            have LA1 := LA.below hb1
            have LB1 := LB.below hb1
            clear e0 e1 e2 e3 e4 e5 e6 e7 e8 e9 e10 e11 e12 e13 e14
            clear hb1 E0 BW UW LA hz0
            rcases hr with ⟨_, rfl⟩ | ⟨he, _⟩
            rotate_left
            · exact absurd he hE
            obtain ⟨t0, t1, t2, t3, t4, t5, t6, t7, t8, t9, t10, t11, t12, t13, t14⟩ := _root_.id E1
            rw [← hd] at t0 t1 t2 t3 t4 t5 t6 t7 t8 t9 t10 t11 t12 t13 t14
            dsimp only at t0 t1 t2 t3 t4 t5 t6 t7 t8 t9 t10 t11 t12 t13 t14
            simp only [Nat.zero_add] at t0 t1 t2 t3 t4 t5 t6 t7 t8 t9 t10 t11 t12 t13 t14
            go_wp2_with fail
            refine (rnew_any B cb l ⟨gid, fa, fc, ta, tc, inst, qty, price, grp, gday, gst⟩ day _ LB1).mono ?_
            rintro e w2 ⟨hr, hb2⟩
            have BW2 := since_step BW1 hb2
            have UW2 := UW1.below hb2
            have E2 := E1.below hz1 hb2
            have hz2 := Nat.lt_of_lt_of_le hz1 hb2.size
            have LA2 := LA1.below hb2
            have LB2 := LB1.below hb2
            clear t0 t1 t2 t3 t4 t5 t6 t7 t8 t9 t10 t11 t12 t13 t14
            clear hb2 E1 BW1 UW1 LA1 LB1 hz1
            rcases hr with ⟨_, rfl⟩ | ⟨he, _⟩
            rotate_left
            · exact absurd he hE
            have HNE : (newE l ⟨gid, fa, fc, ta, tc, inst, qty, price, grp, gday, gst⟩ day == 0) = false := by simpa using hE
            generalize newE l ⟨gid, fa, fc, ta, tc, inst, qty, price, grp, gday, gst⟩ day = ne at *
            clear hE
            go_wp2_with fail
            refine (rsame_any none none 0 0 [] _ (by simp) Sl.nil Sl.nil).mono ?_
            rintro e w3 ⟨rfl, hb3⟩
            go_wp2_with fail
            go_meet
            case rel => exact ⟨A, ca, B, cb, l, rfl, rfl, LA2.below hb3, LB2.below hb3, since_step BW2 hb3, UW2.below hb3, E2.below hz2 hb3, Nat.lt_of_lt_of_le hz2 hb3.size⟩
        · cases hkind1 : (kind == 1)
          rotate_left
          · by_cases hE : turnE l id st = 0
            · go_wp2_with fail
              refine (turn_any A ca l id st _ (by have := LA.2.2.1; omega) LA.2.2.2.2).mono ?_
              rintro e w1 ⟨hr, hb1⟩
              have BW1 := since_step BW hb1
              have UW1 := UW.below hb1
              have E1 := E0.below hz0 hb1
              have hz1 := Nat.lt_of_lt_of_le hz0 hb1.size
              have LA1 := LA.below hb1
              have LB1 := LB.below hb1
              clear e0 e1 e2 e3 e4 e5 e6 e7 e8 e9 e10 e11 e12 e13 e14
              clear hb1 E0 BW UW LA hz0
              rcases hr with ⟨hne, _⟩ | ⟨_, A1, c1, rfl, hc1, hs1⟩
              · exact absurd hE hne
              have hG := GL.turn LA1 hE hc1 hs1
              obtain ⟨t0, t1, t2, t3, t4, t5, t6, t7, t8, t9, t10, t11, t12, t13, t14⟩ := _root_.id E1
              rw [← hd] at t0 t1 t2 t3 t4 t5 t6 t7 t8 t9 t10 t11 t12 t13 t14
              dsimp only at t0 t1 t2 t3 t4 t5 t6 t7 t8 t9 t10 t11 t12 t13 t14
              simp only [Nat.zero_add] at t0 t1 t2 t3 t4 t5 t6 t7 t8 t9 t10 t11 t12 t13 t14
              go_wp2_with fail
              refine (rturn_any B cb l id st _ (by have := LB1.2.2.1; omega) LB1.2.2.2.2).mono ?_
              rintro e w2 ⟨hr, hb2⟩
              have BW2 := since_step BW1 hb2
              have UW2 := UW1.below hb2
              have E2 := E1.below hz1 hb2
              have hz2 := Nat.lt_of_lt_of_le hz1 hb2.size
              have LA2 := LA1.below hb2
              have LB2 := LB1.below hb2
              have hG2 := hG.below hb2
              clear t0 t1 t2 t3 t4 t5 t6 t7 t8 t9 t10 t11 t12 t13 t14
              clear hb2 E1 BW1 UW1 LA1 LB1 hz1
              rcases hr with ⟨hne, _⟩ | ⟨_, A2, c2, rfl, hc2, hs2⟩
              · exact absurd hE hne
              have hH := GL.turn LB2 hE hc2 hs2
              have hlen : l.length = (turnL l id st).length := by unfold turnL; simp
              clear hs1 hs2 hc1 hc2 hE LA2 LB2 hG
              generalize turnL l id st = N at *
              rw [hlen]
              clear hlen
              have h64 := hG2.2.2.1
              go_wp2_with fail
              refine (rsame_any A1 A2 c1 c2 N _ (by omega) hG2.2.2.2.2 hH.2.2.2.2).mono ?_
              rintro e w3 ⟨rfl, hb3⟩
              go_wp2_with fail
              go_meet
              case rel => exact ⟨A1, c1, A2, c2, N, rfl, rfl, hG2.below hb3, hH.below hb3, since_step BW2 hb3, UW2.below hb3, E2.below hz2 hb3, Nat.lt_of_lt_of_le hz2 hb3.size⟩
            · go_wp2_with fail
              refine (turn_any A ca l id st _ (by have := LA.2.2.1; omega) LA.2.2.2.2).mono ?_
              rintro e w1 ⟨hr, hb1⟩
              have BW1 := since_step BW hb1
              have UW1 := UW.below hb1
              have E1 := E0.below hz0 hb1
              have hz1 := Nat.lt_of_lt_of_le hz0 hb1.size
              have LA1 := LA.below hb1
              have LB1 := LB.below hb1
              clear e0 e1 e2 e3 e4 e5 e6 e7 e8 e9 e10 e11 e12 e13 e14
              clear hb1 E0 BW UW LA hz0
              rcases hr with ⟨_, rfl⟩ | ⟨he, _⟩
              rotate_left
              · exact absurd he hE
              obtain ⟨t0, t1, t2, t3, t4, t5, t6, t7, t8, t9, t10, t11, t12, t13, t14⟩ := _root_.id E1
              rw [← hd] at t0 t1 t2 t3 t4 t5 t6 t7 t8 t9 t10 t11 t12 t13 t14
              dsimp only at t0 t1 t2 t3 t4 t5 t6 t7 t8 t9 t10 t11 t12 t13 t14
              simp only [Nat.zero_add] at t0 t1 t2 t3 t4 t5 t6 t7 t8 t9 t10 t11 t12 t13 t14
              go_wp2_with fail
              refine (rturn_any B cb l id st _ (by have := LB1.2.2.1; omega) LB1.2.2.2.2).mono ?_
              rintro e w2 ⟨hr, hb2⟩
              have BW2 := since_step BW1 hb2
              have UW2 := UW1.below hb2
              have E2 := E1.below hz1 hb2
              have hz2 := Nat.lt_of_lt_of_le hz1 hb2.size
              have LA2 := LA1.below hb2
              have LB2 := LB1.below hb2
              clear t0 t1 t2 t3 t4 t5 t6 t7 t8 t9 t10 t11 t12 t13 t14
              clear hb2 E1 BW1 UW1 LA1 LB1 hz1
              rcases hr with ⟨_, rfl⟩ | ⟨he, _⟩
              rotate_left
              · exact absurd he hE
              have HNE : (turnE l id st == 0) = false := by simpa using hE
              generalize turnE l id st = ne at *
              clear hE
              go_wp2_with fail
              refine (rsame_any none none 0 0 [] _ (by simp) Sl.nil Sl.nil).mono ?_
              rintro e w3 ⟨rfl, hb3⟩
              go_wp2_with fail
              go_meet
              case rel => exact ⟨A, ca, B, cb, l, rfl, rfl, LA2.below hb3, LB2.below hb3, since_step BW2 hb3, UW2.below hb3, E2.below hz2 hb3, Nat.lt_of_lt_of_le hz2 hb3.size⟩
          · go_wp2_with fail
            go_meet
            case rel => exact ⟨A, ca, B, cb, l, rfl, rfl, LA, LB, BW, UW, E0, hz0⟩
      case rest =>
        clear LA LB BW UW E0 hz0
        obtain ⟨P, cp, Q, cq, m, rfl, rfl, MA, MB, XW, VW, F0, hy0⟩ := hcut
        obtain ⟨t0, t1, t2, t3, t4, t5, t6, t7, t8, t9, t10, t11, t12, t13, t14⟩ := _root_.id F0
        rw [← hd] at t0 t1 t2 t3 t4 t5 t6 t7 t8 t9 t10 t11 t12 t13 t14
        dsimp only at t0 t1 t2 t3 t4 t5 t6 t7 t8 t9 t10 t11 t12 t13 t14
        simp only [Nat.zero_add] at t0 t1 t2 t3 t4 t5 t6 t7 t8 t9 t10 t11 t12 t13 t14
        obtain ⟨f0, f1, f2, f3, f4, f5, f6, f7, f8, f9, f10, bb, hF⟩ := findV_form m id
        have HF := Lib.hid hF
        clear hF
        have h64 := MA.2.2.1
        have ew : IntKind.i64.wrap ((k : Int) + 1) = (k : Int) + 1 := IntWalk.i64_in _ (by omega)
        go_wp2_with fail
        refine (find_any P cp m id _ (by omega) MA.2.2.2.2).mono ?_
        rintro e w1 ⟨rfl, hb1⟩
        rw [HF.out]
        have XW1 := since_step XW hb1
        have VW1 := VW.below hb1
        have F1 := F0.below hy0 hb1
        have hy1 := Nat.lt_of_lt_of_le hy0 hb1.size
        have MA1 := MA.below hb1
        have MB1 := MB.below hb1
        clear t0 t1 t2 t3 t4 t5 t6 t7 t8 t9 t10 t11 t12 t13 t14
        clear hb1 F0 XW VW MA MB hy0
        obtain ⟨t0, t1, t2, t3, t4, t5, t6, t7, t8, t9, t10, t11, t12, t13, t14⟩ := _root_.id F1
        rw [← hd] at t0 t1 t2 t3 t4 t5 t6 t7 t8 t9 t10 t11 t12 t13 t14
        dsimp only at t0 t1 t2 t3 t4 t5 t6 t7 t8 t9 t10 t11 t12 t13 t14
        simp only [Nat.zero_add] at t0 t1 t2 t3 t4 t5 t6 t7 t8 t9 t10 t11 t12 t13 t14
        go_wp2_with fail
        refine (rfind_any Q cq m id _ (by omega) (MB1.alloc _).2.2.2.2).mono ?_
        rintro e w2 ⟨rfl, hb2⟩
        rw [HF.out]
        have PB := (Bk.new w1 #[.int .i64 f0, .int .i64 f1, .int .i64 f2, .int .i64 f3, .int .i64 f4, .int .i64 f5, .int .i64 f6, .int .i64 f7, .int .i64 f8, .int .i64 f9, .int .i64 f10] 43).below hb2
        have XW2 := since_step (since_alloc XW1 _) hb2
        have VW2 := (VW1.below ((Below.refl _ _).alloc (Nat.le_refl _) _)).below hb2
        have F2 := (F1.below hy1 ((Below.refl _ _).alloc (Nat.le_refl _) _)).below (Nat.lt_of_lt_of_le hy1 ((Below.refl w1.heap.size w1).alloc (Nat.le_refl _) _).size) hb2
        have hy2 := Nat.lt_of_lt_of_le (Nat.lt_of_lt_of_le hy1 ((Below.refl w1.heap.size w1).alloc (Nat.le_refl _) (.cells #[.int .i64 f0, .int .i64 f1, .int .i64 f2, .int .i64 f3, .int .i64 f4, .int .i64 f5, .int .i64 f6, .int .i64 f7, .int .i64 f8, .int .i64 f9, .int .i64 f10] 43)).size) hb2.size
        have MA2 := (MA1.alloc _).below hb2
        have MB2 := (MB1.alloc _).below hb2
        clear t0 t1 t2 t3 t4 t5 t6 t7 t8 t9 t10 t11 t12 t13 t14
        clear hb2 F1 XW1 VW1 MA1 MB1 hy1
        go_upto_region 23 with fail
        have PB3 := PB.alloc (.cells #[.int .i64 f0, .int .i64 f1, .int .i64 f2, .int .i64 f3, .int .i64 f4, .int .i64 f5, .int .i64 f6, .int .i64 f7, .int .i64 f8, .int .i64 f9, .int .i64 f10] 43)
        have QB3 := Bk.new w2 #[.int .i64 f0, .int .i64 f1, .int .i64 f2, .int .i64 f3, .int .i64 f4, .int .i64 f5, .int .i64 f6, .int .i64 f7, .int .i64 f8, .int .i64 f9, .int .i64 f10] 43
        have XW3 := since_alloc XW2 (.cells #[.int .i64 f0, .int .i64 f1, .int .i64 f2, .int .i64 f3, .int .i64 f4, .int .i64 f5, .int .i64 f6, .int .i64 f7, .int .i64 f8, .int .i64 f9, .int .i64 f10] 43)
        have VW3 := VW2.below ((Below.refl _ _).alloc (Nat.le_refl _) (.cells #[.int .i64 f0, .int .i64 f1, .int .i64 f2, .int .i64 f3, .int .i64 f4, .int .i64 f5, .int .i64 f6, .int .i64 f7, .int .i64 f8, .int .i64 f9, .int .i64 f10] 43))
        have F3 := F2.below hy2 ((Below.refl _ _).alloc (Nat.le_refl _) (.cells #[.int .i64 f0, .int .i64 f1, .int .i64 f2, .int .i64 f3, .int .i64 f4, .int .i64 f5, .int .i64 f6, .int .i64 f7, .int .i64 f8, .int .i64 f9, .int .i64 f10] 43))
        have hy3 := Nat.lt_of_lt_of_le hy2 ((Below.refl w2.heap.size w2).alloc (Nat.le_refl _) (.cells #[.int .i64 f0, .int .i64 f1, .int .i64 f2, .int .i64 f3, .int .i64 f4, .int .i64 f5, .int .i64 f6, .int .i64 f7, .int .i64 f8, .int .i64 f9, .int .i64 f10] 43)).size
        have MA3 := MA2.alloc (.cells #[.int .i64 f0, .int .i64 f1, .int .i64 f2, .int .i64 f3, .int .i64 f4, .int .i64 f5, .int .i64 f6, .int .i64 f7, .int .i64 f8, .int .i64 f9, .int .i64 f10] 43)
        have MB3 := MB2.alloc (.cells #[.int .i64 f0, .int .i64 f1, .int .i64 f2, .int .i64 f3, .int .i64 f4, .int .i64 f5, .int .i64 f6, .int .i64 f7, .int .i64 f8, .int .i64 f9, .int .i64 f10] 43)
        clear PB XW2 VW2 F2 MA2 MB2 hy2
        generalize w2.alloc (.cells #[.int .i64 f0, .int .i64 f1, .int .i64 f2, .int .i64 f3, .int .i64 f4, .int .i64 f5, .int .i64 f6, .int .i64 f7, .int .i64 f8, .int .i64 f9, .int .i64 f10] 43) = W1 at *
        have sO : ∀ W, Below W1.heap.size W1 W → (Below W1.heap.size W1 W ∧ (∀ o, W.cell? ⟨w1.heap.size, o, none⟩ = (#[.int .i64 f0, .int .i64 f1, .int .i64 f2, .int .i64 f3, .int .i64 f4, .int .i64 f5, .int .i64 f6, .int .i64 f7, .int .i64 f8, .int .i64 f9, .int .i64 f10] : Array Value)[o]?) ∧ (∀ o, W.cell? ⟨w2.heap.size, o, none⟩ = (#[.int .i64 f0, .int .i64 f1, .int .i64 f2, .int .i64 f3, .int .i64 f4, .int .i64 f5, .int .i64 f6, .int .i64 f7, .int .i64 f8, .int .i64 f9, .int .i64 f10] : Array Value)[o]?) ∧ W.cell? ⟨g8, 1, none⟩ = some (.int .i64 day) ∧ W.cell? ⟨w.heap.size, 0, none⟩ = some (.int .i64 ua) ∧ W.cell? ⟨w.heap.size, 1, none⟩ = some (.int .i64 uc)) := fun W h => ⟨h, (PB3.below h).2, (QB3.below h).2, by rw [h.cell (p := ⟨g8, 1, none⟩) hy3]; have := F3.2.1; rw [← hd] at this; exact this, (VW3.below h).2.1, (VW3.below h).2.2⟩
        have SO := Lib.hid sO
        clear sO PB3 QB3
        have HLA := Lib.hid (fun W (h : Below W1.heap.size W1 W) => (MA3.below h).2.2.2.2)
        have HLB := Lib.hid (fun W (h : Below W1.heap.size W1 W) => (MB3.below h).2.2.2.2)
        have LL := lateL_length m day
        have LO := ofL_length m ua uc
        have HL1 := Lib.hid LL
        have HL2 := Lib.hid LO
        have H64 := Lib.hid h64
        clear LL LO
        have tk1 : True := trivial
        go_region_held3 (fun W => Below W1.heap.size W1 W ∧ (∀ o, W.cell? ⟨w1.heap.size, o, none⟩ = (#[.int .i64 f0, .int .i64 f1, .int .i64 f2, .int .i64 f3, .int .i64 f4, .int .i64 f5, .int .i64 f6, .int .i64 f7, .int .i64 f8, .int .i64 f9, .int .i64 f10] : Array Value)[o]?) ∧ (∀ o, W.cell? ⟨w2.heap.size, o, none⟩ = (#[.int .i64 f0, .int .i64 f1, .int .i64 f2, .int .i64 f3, .int .i64 f4, .int .i64 f5, .int .i64 f6, .int .i64 f7, .int .i64 f8, .int .i64 f9, .int .i64 f10] : Array Value)[o]?) ∧ W.cell? ⟨g8, 1, none⟩ = some (.int .i64 day) ∧ W.cell? ⟨w.heap.size, 0, none⟩ = some (.int .i64 ua) ∧ W.cell? ⟨w.heap.size, 1, none⟩ = some (.int .i64 uc))
          (first | exact SO.out _ (by assumption) | exact SO.out _ (Below.refl _ _).drew | assumption)
          (first
            | (go_at_call 31; go_split_ands; refine (late_any P cp m day _ (by omega) (HLA.out _ (by assumption))).mono ?_; rintro e w3 ⟨⟨A3, c3, rfl, hs3⟩, hb3⟩; have hbW3 := since_step (by assumption) hb3)
            | (go_at_call 32; go_split_ands; refine (rlate_any Q cq m day _ (by omega) (HLB.out _ (by assumption))).mono ?_; rintro e w4 ⟨⟨A4, c4, rfl, hs4⟩, hb4⟩; have hbW4 := since_step (by assumption) hb4; have hs3b := hs3.below hb4)
            | (go_at_call 30; go_split_ands; (first | (have _t := tk1; refine (sameIds_eq A3 A4 c3 c4 (lateL m day) _ (by have := HL1.out; have := H64.out; omega) hs3b hs4).mono ?_; rintro e w5 ⟨rfl, hb5⟩; have hbW5 := since_step (by assumption) hb5; clear tk1) | (refine (sameIds_eq A6 A7 c6 c7 (ofL m ua uc) _ (by have := HL2.out; have := H64.out; omega) hs6b hs7).mono ?_; rintro e w8 ⟨rfl, hb8⟩; have hbW8 := since_step (by assumption) hb8)))
            | (go_at_call 33; go_split_ands; refine (of_any P cp m ua uc _ (by omega) (HLA.out _ (by assumption))).mono ?_; rintro e w6 ⟨⟨A6, c6, rfl, hs6⟩, hb6⟩; have hbW6 := since_step (by assumption) hb6)
            | (go_at_call 34; go_split_ands; refine (rof_any Q cq m ua uc _ (by omega) (HLB.out _ (by assumption))).mono ?_; rintro e w7 ⟨⟨A7, c7, rfl, hs7⟩, hb7⟩; have hbW7 := since_step (by assumption) hb7; have hs6b := hs6.below hb7))
        go_wp2
        go_roundw
        go_split_ands
        case rel => exact ⟨k + 1, P, cp, Q, cq, m, by omega, by go_num, rfl, rfl, MA3.below (by assumption), MB3.below (by assumption), since_step XW3 (by assumption), VW3.below (by assumption)⟩
        case measure => simp [intOf]; omega
    · rcases (show (k < D.length ∧ ¬ k < 90) ∨ ¬ k < D.length by omega) with ⟨hx1, hx2⟩ | hx1
      all_goals
        clear hlt hk
        go_wp2_with fail
        refine (lives23_any _).mono ?_
        rintro e w8 ⟨rfl, hb8⟩
        have hB8 := since_step hB hb8
        go_wp2_with fail
        go_ret
        exact ⟨rfl, hB8⟩
end Go.Proofs.Ytaaknohoaijfhaa
