/-
  Layer 18, eleventh part: Draw of the program where there is enough (laid by gen_lots11.py).
-/
import Derived.Test.YtfagpdnckmaomaaLots10
import Derived.Test.YtfagpdnckmaomaaFix2
import Derived.Test.YtfagpdnckmaomaaW1
namespace Go.Proofs.Ytfagpdnckmaomaa
open Go.ChangeShapes Go.WideShapes Go.ChangeAt Go.RowKit
set_option linter.unusedVariables false
set_option linter.unusedSimpArgs false

theorem Lt.Bx.setQ {w : World} {b : Nat} {g : Lt} (h : Lt.Bx w b g) (n : Int) : Lt.Bx (w.setCell ⟨b, 2, none⟩ (.int .i64 n)) b ⟨g.ast, g.tag, n⟩ := by
  obtain ⟨h0, h1, h2⟩ := h
  refine ⟨by simpa using h0, ?_, ?_⟩
  · unfold Lt.at at h1 ⊢
    simp only [Nat.zero_add] at h1 ⊢
    simp [cell_set, h1]
  · rw [setCell_eq_setRow w b 2 g.cells.toArray 74 (0, 0) _ h2]
    have := setRow_heap w b _ ((g.cells.toArray).set! 2 (.int .i64 n)) 74 (0, 0) h2
    simpa [Lt.cells] using this
theorem Lt.Bx.far {w : World} {b : Nat} {g : Lt} (h : Lt.Bx w b g) {p : Addr} (hp : p.block ≠ b) (v : Value) : Lt.Bx (w.setCell p v) b g := by
  obtain ⟨h0, h1, h2⟩ := h
  refine ⟨by simpa using h0, ?_, ?_⟩
  · exact Lt.at_keep h1 fun i => by rw [cell_set, if_neg (fun e => hp (by rw [e]))]
  · rw [Below.heap_setCell _ _ _ _ (fun e => hp e.symm)]; exact h2
theorem mnL_one (a q : Int) : mnL a [q] = min a q := by
  unfold mnL
  simp only [List.foldl]
  split <;> omega

theorem own_ne {w : World} {base e size n : Nat} {v : Value} {xs : List Value} (h : w.ownsRow base e size v n xs) : v.ownBlock ≠ some w.heap.size := by
  intro h2
  rcases h.2 with ⟨rfl, _⟩ | ⟨g', cap, cur, rfl, _, hh, _⟩
  · simp [Value.ownBlock] at h2
  · simp only [Value.ownBlock, Option.some.injEq] at h2
    subst h2
    rw [Array.getElem?_eq_none (Nat.le_refl _)] at hh
    cases hh
/-- a box stays over an append onto a row of the call's own that lies elsewhere -/
theorem Lt.Bx.grown {w w' : World} {b base n : Nat} {g : Lt} {v : Value} {xs : List Value} (h : Lt.Bx w b g) (o : Obj) (hv : w.ownsRow base 74 3 v n xs) (hg : (w.alloc o).grownBy w' v.ownBlock) (hne : v.ownBlock ≠ some b) : Lt.Bx w' b g := by
  have h1 := h.below ((Below.refl _ _).alloc (Nat.le_refl _) o)
  have hk := hg.block b h1.lt (fun e => hne e.symm)
  exact ⟨Nat.lt_of_lt_of_le h1.lt hg.size, Lt.at_keep h1.at_ fun i => World.cell?_of_block (a := ⟨b, i, none⟩) hk, hk.trans h1.hp⟩
/-- DeleteFunc on a row: where it lies it stays, and a row apart from it stays whole -/
theorem delfunc_beside (B : Nat) (c : Nat) (A : Option Addr) (l : List Lt) (n2 c2 : Nat) (A2 : Option Addr) (ys : List Value) (w : World) (hn6 : l.length ≤ 1000000) (hBw : B ≤ w.heap.size)
    (hown : w.ownsRow B 74 3 (.slice A l.length c) l.length (rc Lt.cells l)) (hu : w.ownsRow B 74 3 (.slice A2 n2 c2) n2 ys) (hap : Apart (.slice A l.length c) (.slice A2 n2 c2)) :
    Calls Try.prog 100 #[.slice A l.length c, .func (.func 99) #[] #[]] w fun e w' =>
      (∃ c', e = .returned (.slice A (someL l).length c') ∧ w'.ownsRow B 74 3 (.slice A (someL l).length c') (someL l).length (rc Lt.cells (someL l))) ∧ Below B w w' ∧ w'.ownsRow B 74 3 (.slice A2 n2 c2) n2 ys := by
  rcases hu.2 with ⟨e, h0⟩ | ⟨g2, cap, cur, e, hB2, hh, rest⟩
  · injection e with e1 e2 e3
    subst e1; subst e3
    refine (delfunc_at B l.length c A l 99 #[] (fun y => y.qty == 0) w rfl hn6 hBw hown ent_draw1 (tells_draw1 _ _)).mono ?_
    rintro e w' ⟨h1, h2⟩
    exact ⟨h1, h2, hu.1, .inl ⟨by rw [h0], h0⟩⟩
  · injection e with e1 e2 e3
    subst e1; subst e3
    have hlt : g2 < w.heap.size := (Array.getElem?_eq_some_iff.1 hh).1
    refine (delfunc_keep g2 B l.length c A l 99 #[] (fun y => y.qty == 0) w rfl hn6 hBw hown ent_draw1 (tells_draw1 _ _) hlt (fun g hg e => hap g (by rw [hg]; rfl) (by rw [e]; rfl))).mono ?_
    rintro e w' ⟨h1, h2, h3⟩
    exact ⟨h1, h2, hu.1, .inr ⟨g2, _, cur, rfl, hB2, h3.trans hh, rest⟩⟩
set_option maxHeartbeats 8000000 in
set_option maxRecDepth 100000 in
theorem ldraw_ok (A : Option Addr) (cap : Nat) (l : List Lt) (a q0 : Int) (w : World) (hl : l.length ≤ 900000) (hq0 : In64 q0) (hq : ∀ y ∈ l, In64 y.qty) (hi : isLs l = true) (hnn : 0 ≤ q0) (hsm : q0 ≤ (qsL l a).sum) (hs : Sl w A (rc Lt.cells l)) :
    Calls Try.prog 56 #[.slice A l.length cap, .int .i64 a, .int .i64 q0] w fun e w' => (∃ A1 c1 A2 c2, e = .returned (.tuple #[.slice A1 (someL (drawF a q0 l).1).length c1, .slice A2 (someL (drawF a q0 l).2).length c2, .int .i64 0]) ∧ w'.ownsRow w.heap.size 74 3 (.slice A1 (someL (drawF a q0 l).1).length c1) (someL (drawF a q0 l).1).length (rc Lt.cells (someL (drawF a q0 l).1)) ∧ w'.ownsRow w.heap.size 74 3 (.slice A2 (someL (drawF a q0 l).2).length c2) (someL (drawF a q0 l).2).length (rc Lt.cells (someL (drawF a q0 l).2))) ∧ Below w.heap.size w w' := by
  have HIS := lis_any A cap l w (by omega) hs
  rw [hi] at HIS
  have HSM := Lib.hid (fun V h => lsum_any A cap l a V hl hq h)
  have h128 := sum64_128 (by have := qsL_len l a; omega) (qsL_in hq a)
  have HOF := Lib.hid (fun V => wof_any q0 hq0 V)
  have HCM := Lib.hid (fun V => wcmp_any (qsL l a).sum q0 h128 (of_in q0 hq0).2.2 V)
  have hcz : ¬ cmpZ (qsL l a).sum q0 < 0 := by unfold cmpZ; split; omega; first | omega | (split <;> omega)
  have hqn : ¬ q0 < 0 := by omega
  have HQI : Hid (∀ y : Lt, y ∈ l → In64 y.qty ∧ (0 : Int) < y.qty) := Lib.hid (fun y hy => ⟨hq y hy, by
    unfold isLs at hi
    simp only [Bool.and_eq_true, List.all_eq_true] at hi
    exact okL_pos (hi.1.1 y hy)⟩)
  have HS : Hid (∀ V, Below w.heap.size w V → Sl V A (rc Lt.cells l)) := Lib.hid fun V h => hs.below h
  have HI64 := Lib.hid hq0
  obtain ⟨TD, hTD⟩ : ∃ d, (drawF a q0 l).1 = d := ⟨_, rfl⟩
  obtain ⟨TL, hTL⟩ : ∃ d, (drawF a q0 l).2 = d := ⟨_, rfl⟩
  have hlD : TD.length = l.length := by rw [← hTD]; exact (drawF_len a q0 l).1
  have hlL : TL.length = l.length := by rw [← hTL]; exact (drawF_len a q0 l).2
  have HTD0 := Lib.hid hTD
  have HTL0 := Lib.hid hTL
  have HLD := Lib.hid hlD
  have HLL := Lib.hid hlL
  rw [hTD, hTL]
  clear hs hi hq hTD hTL hlD hlL h128 hsm hq0
  generalize (qsL l a).sum = sm at *
  generalize cmpZ sm q0 = cz at *
  go_enter Try.func56, Try.ntmps56
  go_wp2_with fail
  refine HIS.mono ?_
  rintro e w1 ⟨rfl, hb⟩
  have hB1 : Below w.heap.size w w1 := hb
  go_wp2_with fail
  refine (HSM.out _ (HS.out _ hB1)).mono ?_
  rintro e w2 ⟨rfl, hb⟩
  have hB2 := since_step hB1 hb
  go_wp2_with fail
  refine (HOF.out _).mono ?_
  rintro e w3 ⟨rfl, hb⟩
  have hB3 := since_step hB2 hb
  go_wp2_with fail
  refine (HCM.out _).mono ?_
  rintro e W ⟨rfl, hb⟩
  have hBW := since_step hB3 hb
  clear hb hB1 hB2 hB3 HIS HSM HOF HCM
  have hsW := HS.out _ hBW
  have hWs := hBW.size
  go_wp2_with fail
  go_loopw [2, 9, 10, 29] (fun qv dv lv i wr => ∃ (k : Nat) (q : Int) (D L : List Lt) (A1 : Option Addr) (c1 : Nat) (A2 : Option Addr) (c2 : Nat), k ≤ l.length ∧ i = .int .i64 k ∧ qv = .int .i64 q ∧ dv = .slice A1 D.length c1 ∧ lv = .slice A2 L.length c2 ∧
    wr.ownsRow W.heap.size 74 3 (.slice A1 D.length c1) D.length (rc Lt.cells D) ∧ wr.ownsRow W.heap.size 74 3 (.slice A2 L.length c2) L.length (rc Lt.cells L) ∧ Apart (.slice A1 D.length c1) (.slice A2 L.length c2) ∧ D.length = k ∧ L.length = k ∧ 0 ≤ q ∧ q ≤ q0 ∧
    D ++ (drawF a q (l.drop k)).1 = TD ∧ L ++ (drawF a q (l.drop k)).2 = TL ∧ Below W.heap.size W wr) (fun _ _ _ i _ => l.length - (intOf i).toNat)
  case atStart => exact ⟨0, q0, [], [], none, 0, none, 0, by omega, rfl, rfl, rfl, rfl, own_nil _ _ _, own_nil _ _ _, Apart.none _, rfl, rfl, by omega, by omega, HTD0.out, HTL0.out, Below.refl _ _⟩
  case round =>
    obtain ⟨k, q, D, L, A1, c1, A2, c2, hk, rfl, rfl, rfl, rfl, ownD, ownL, hap, hDk, hLk, hq1, hq2, hTD, hTL, hB⟩ := hrel
    have HTD := Lib.hid hTD
    have HTL := Lib.hid hTL
    clear hTD hTL
    by_cases hlt : k < l.length
    · obtain ⟨b, o, rfl, hbw, hg⟩ := (hsW.below hB).lt hlt
      have hlk : (k : Int) < (l.length : Int) := by omega
      have hge : (0 : Int) ≤ (k : Int) := by omega
      obtain ⟨hx64, hxp⟩ := HQI.out _ (List.getElem_mem hlt)
      have hq64 := HI64.out
      obtain ⟨v, hv⟩ : ∃ v, l[k] = v := ⟨_, rfl⟩
      have HD : Hid (l.drop k = v :: l.drop (k + 1)) := Lib.hid (by rw [← hv]; exact List.drop_eq_getElem_cons hlt)
      rw [hv] at hg hx64 hxp
      clear hv hbw hcz hqn
      obtain ⟨xa, xt, xq⟩ := v
      obtain ⟨g0, g1, g2⟩ := hg
      simp only at g0 g1 g2 hx64 hxp
      have hD6 : D.length ≤ 900000 := by omega
      have hL6 : L.length ≤ 900000 := by omega
      have HDk := Lib.hid hDk
      have HLk := Lib.hid hLk
      clear hDk hLk
      by_cases h1 : xa = a
      · have hb1 : (xa == a) = true := by simpa using h1
        obtain ⟨p, hp⟩ : ∃ p, min xq q = p := ⟨_, rfl⟩
        have hp1 : 0 ≤ p := by omega
        have hp2 : p ≤ q := by omega
        have hp3 : p ≤ xq := by omega
        have HLE := Lib.hid (fun A W h => fleast_any xq A 1 [q] W (by simp) h)
        rw [mnL_one, hp] at HLE
        have hw1 : IntKind.i64.wrap (q - p) = q - p := IntWalk.i64_in _ (by unfold In64 at *; omega)
        have hw2 : IntKind.i64.wrap (xq - p) = xq - p := IntWalk.i64_in _ (by unfold In64 at *; omega)
        have HP := Lib.hid (show (if xa = a then min xq q else 0) = p by rw [if_pos h1, hp])
        have HQ2 := Lib.hid (show 0 ≤ q - p ∧ q - p ≤ q0 by omega)
        clear hp hp1 hp2 hp3 h1
        have HND : Hid ((D ++ [(⟨xa, xt, p⟩ : Lt)]) ++ (drawF a (q - p) (l.drop (k + 1))).1 = TD) := Lib.hid (bit_step HTD.out (by rw [HD.out]; simp [drawF, HP.out]))
        have HNL : Hid ((L ++ [(⟨xa, xt, xq - p⟩ : Lt)]) ++ (drawF a (q - p) (l.drop (k + 1))).2 = TL) := Lib.hid (bit_step HTL.out (by rw [HD.out]; simp [drawF, HP.out]))
        clear HTD HTL HD HP hq1 hq2 hxp hx64 hq64
        have X0 := (Lt.Bx.new wr ⟨xa, xt, xq⟩).below ((Below.refl _ _).alloc (Nat.le_refl _) (.cells #[.int .i64 xa, .int .i64 xt, .int .i64 0] 74))
        have X1 : Lt.Bx ((wr.alloc (.cells #[.int .i64 xa, .int .i64 xt, .int .i64 xq] 74)).alloc (.cells #[.int .i64 xa, .int .i64 xt, .int .i64 0] 74)) (wr.heap.size + 1) ⟨xa, xt, 0⟩ := by have h := Lt.Bx.new (wr.alloc (.cells #[.int .i64 xa, .int .i64 xt, .int .i64 xq] 74)) ⟨xa, xt, 0⟩; rw [World.size_alloc] at h; exact h
        have hA := since_alloc (since_alloc (Below.refl _ wr) (.cells #[.int .i64 xa, .int .i64 xt, .int .i64 xq] 74)) (.cells #[.int .i64 xa, .int .i64 xt, .int .i64 0] 74)
        have hz0 : ((wr.alloc (.cells #[.int .i64 xa, .int .i64 xt, .int .i64 xq] 74)).alloc (.cells #[.int .i64 xa, .int .i64 xt, .int .i64 0] 74)).frozen? ⟨wr.heap.size, 2, none⟩ = false := by simp
        have hz1 : ((wr.alloc (.cells #[.int .i64 xa, .int .i64 xt, .int .i64 xq] 74)).alloc (.cells #[.int .i64 xa, .int .i64 xt, .int .i64 0] 74)).frozen? ⟨wr.heap.size + 1, 2, none⟩ = false := by simp
        unfold Lt.cells at X0
        simp only at X0
        go_upto_region 14 with fail
        generalize hWW : (wr.alloc (.cells #[.int .i64 xa, .int .i64 xt, .int .i64 xq] 74)).alloc (.cells #[.int .i64 xa, .int .i64 xt, .int .i64 0] 74) = V at *
        clear hWW g0 g1 g2
        obtain ⟨x0, x1, x2⟩ := X0.got
        obtain ⟨y0, y1, y2⟩ := X1.got
        simp only at x0 x1 x2 y0 y1 y2
        have lx := X0.lt
        have ly := X1.lt
        go_wp2_with fail
        have HSL := Sl.new_ V (ints .i64 [q]) 2
        refine (HLE.out _ _ HSL).mono ?_
        rintro e v1 ⟨rfl, hb⟩
        have hb' := since_step (since_alloc (Below.refl _ V) (.cells (ints .i64 [q]).toArray 2)) hb
        have hA1 := since_step hA hb'
        have X0 := X0.below hb'
        have X1 := X1.below hb'
        have hz0 := (hb'.frozen (p := ⟨wr.heap.size, 2, none⟩) lx).trans hz0
        have hz1 := (hb'.frozen (p := ⟨wr.heap.size + 1, 2, none⟩) ly).trans hz1
        clear hb hb' x0 x1 x2 y0 y1 y2 lx ly hA HSL
        obtain ⟨x0, x1, x2⟩ := X0.got
        obtain ⟨y0, y1, y2⟩ := X1.got
        simp only at x0 x1 x2 y0 y1 y2
        have lx := X0.lt
        have ly := X1.lt
        have hcs := @cell_set
        have X1n := (X1.setQ p).far (p := ⟨wr.heap.size, 2, none⟩) (by show wr.heap.size ≠ wr.heap.size + 1; omega) (.int .i64 (xq - p))
        have X0n := (X0.far (p := ⟨wr.heap.size + 1, 2, none⟩) (by show wr.heap.size + 1 ≠ wr.heap.size; omega) (.int .i64 p)).setQ (xq - p)
        have hAU := Below.setCell (Below.setCell hA1 (p := ⟨wr.heap.size + 1, 2, none⟩) (Nat.le_succ _) (.int .i64 p)) (p := ⟨wr.heap.size, 2, none⟩) (Nat.le_refl _) (.int .i64 (xq - p))
        simp only at X0n X1n
        go_upto_region 17 with fail
        generalize hWW : (v1.setCell ⟨wr.heap.size + 1, 2, none⟩ (.int .i64 p)).setCell ⟨wr.heap.size, 2, none⟩ (.int .i64 (xq - p)) = U at *
        clear hWW x0 x1 x2 y0 y1 y2 lx ly X0 X1 hz0 hz1
        have hDne := Lib.hid (own_ne ownD)
        have ownD := own_below ownD hAU
        have ownL := own_below ownL hAU
        have hBU := hB.trans (hAU.mono hB.size)
        have hsU := hBU.size
        have HX0 : Hid (∀ V, Below U.heap.size U V → Lt.Bx V wr.heap.size ⟨xa, xt, xq - p⟩) := Lib.hid fun V hV => X0n.below hV
        obtain ⟨y0, y1, y2⟩ := X1n.got
        simp only at y0 y1 y2
        clear hAU
        go_wp2_with (first
          | (at_builtin; refine wpList_app2 rfl (.tmp 55) (.tmp 57) rfl ELt rfl rfl (ownD.alloc _) (m := 1) (news := (⟨xa, xt, p⟩ : Lt).cells) rfl (by decide) (Sl.new_ _ _ _) (Lt.one _) (by unfold maxLen; omega) (by omega) (by simp only [World.size_alloc]; omega) ?_; intro A5 c5 w5 hown5 hg5 hv5 hb5; have ownL5 := own_apart (ownL.alloc (.cells #[.int .i64 xa, .int .i64 xt, .int .i64 p] 74)) hap hg5; have hap5 := hap.grow (ownL.alloc (.cells #[.int .i64 xa, .int .i64 xt, .int .i64 p] 74)) hv5; have hB5 := (since_alloc hBU (.cells #[.int .i64 xa, .int .i64 xt, .int .i64 p] 74)).trans hb5; have X5 := X0n.grown (.cells #[.int .i64 xa, .int .i64 xt, .int .i64 p] 74) ownD hg5 hDne.out; have hs5 := hB5.size; clear hg5 hv5 hb5 ownL y0 y1 y2 X1n hap ownD; obtain ⟨x0, x1, x2⟩ := X5.got; simp only at x0 x1 x2)
          | (at_builtin; refine wpList_app2 rfl (.tmp 59) (.tmp 61) rfl ELt rfl rfl (ownL5.alloc _) (m := 1) (news := (⟨xa, xt, xq - p⟩ : Lt).cells) rfl (by decide) (Sl.new_ _ _ _) (Lt.one _) (by unfold maxLen; omega) (by omega) (by simp only [World.size_alloc]; omega) ?_; intro A6 c6 w6 hown6 hg6 hv6 hb6)
          | fail)
        have ownD6 := own_apart (hown5.alloc (.cells #[.int .i64 xa, .int .i64 xt, .int .i64 (xq - p)] 74)) hap5.symm hg6
        have hap6 := (hap5.symm.grow (hown5.alloc (.cells #[.int .i64 xa, .int .i64 xt, .int .i64 (xq - p)] 74)) hv6).symm
        have hB6 := (since_alloc hB5 (.cells #[.int .i64 xa, .int .i64 xt, .int .i64 (xq - p)] 74)).trans hb6
        go_roundw
        case rel => exact ⟨k + 1, q - p, D ++ [⟨xa, xt, p⟩], L ++ [⟨xa, xt, xq - p⟩], A5, c5, A6, c6, by omega, by go_num, rfl, by simp, by simp, by simpa [rc] using ownD6, by simpa [rc] using hown6, by simpa using hap6, by rw [List.length_append, HDk.out]; rfl, by rw [List.length_append, HLk.out]; rfl, HQ2.out.1, HQ2.out.2, HND.out, HNL.out, hB6⟩
        case measure => simp [intOf]; omega
      · have hb1 : (xa == a) = false := by simpa using h1
        have hw1 : IntKind.i64.wrap q = q := IntWalk.i64_in _ (by unfold In64 at *; omega)
        have hw2 : IntKind.i64.wrap xq = xq := IntWalk.i64_in _ (by unfold In64 at *; omega)
        have HP := Lib.hid (show (if xa = a then min xq q else 0) = 0 by rw [if_neg h1])
        have HQ2 := Lib.hid (show 0 ≤ q ∧ q ≤ q0 by omega)
        clear h1
        have HND : Hid ((D ++ [(⟨xa, xt, 0⟩ : Lt)]) ++ (drawF a (q) (l.drop (k + 1))).1 = TD) := Lib.hid (bit_step HTD.out (by rw [HD.out]; simp [drawF, HP.out]))
        have HNL : Hid ((L ++ [(⟨xa, xt, xq⟩ : Lt)]) ++ (drawF a (q) (l.drop (k + 1))).2 = TL) := Lib.hid (bit_step HTL.out (by rw [HD.out]; simp [drawF, HP.out]))
        clear HTD HTL HD HP hq1 hq2 hxp hx64 hq64
        have X0n := (Lt.Bx.new wr ⟨xa, xt, xq⟩).below ((Below.refl _ _).alloc (Nat.le_refl _) (.cells #[.int .i64 xa, .int .i64 xt, .int .i64 0] 74))
        have X1n : Lt.Bx ((wr.alloc (.cells #[.int .i64 xa, .int .i64 xt, .int .i64 xq] 74)).alloc (.cells #[.int .i64 xa, .int .i64 xt, .int .i64 0] 74)) (wr.heap.size + 1) ⟨xa, xt, 0⟩ := by have h := Lt.Bx.new (wr.alloc (.cells #[.int .i64 xa, .int .i64 xt, .int .i64 xq] 74)) ⟨xa, xt, 0⟩; rw [World.size_alloc] at h; exact h
        have hAU := since_alloc (since_alloc (Below.refl _ wr) (.cells #[.int .i64 xa, .int .i64 xt, .int .i64 xq] 74)) (.cells #[.int .i64 xa, .int .i64 xt, .int .i64 0] 74)
        unfold Lt.cells at X0n
        simp only at X0n
        go_upto_region 17 with fail
        generalize hWW : (wr.alloc (.cells #[.int .i64 xa, .int .i64 xt, .int .i64 xq] 74)).alloc (.cells #[.int .i64 xa, .int .i64 xt, .int .i64 0] 74) = U at *
        clear hWW g0 g1 g2
        have hDne := Lib.hid (own_ne ownD)
        have ownD := own_below ownD hAU
        have ownL := own_below ownL hAU
        have hBU := hB.trans (hAU.mono hB.size)
        have hsU := hBU.size
        have HX0 : Hid (∀ V, Below U.heap.size U V → Lt.Bx V wr.heap.size ⟨xa, xt, xq⟩) := Lib.hid fun V hV => X0n.below hV
        obtain ⟨y0, y1, y2⟩ := X1n.got
        simp only at y0 y1 y2
        clear hAU
        go_wp2_with (first
          | (at_builtin; refine wpList_app2 rfl (.tmp 55) (.tmp 57) rfl ELt rfl rfl (ownD.alloc _) (m := 1) (news := (⟨xa, xt, 0⟩ : Lt).cells) rfl (by decide) (Sl.new_ _ _ _) (Lt.one _) (by unfold maxLen; omega) (by omega) (by simp only [World.size_alloc]; omega) ?_; intro A5 c5 w5 hown5 hg5 hv5 hb5; have ownL5 := own_apart (ownL.alloc (.cells #[.int .i64 xa, .int .i64 xt, .int .i64 0] 74)) hap hg5; have hap5 := hap.grow (ownL.alloc (.cells #[.int .i64 xa, .int .i64 xt, .int .i64 0] 74)) hv5; have hB5 := (since_alloc hBU (.cells #[.int .i64 xa, .int .i64 xt, .int .i64 0] 74)).trans hb5; have X5 := X0n.grown (.cells #[.int .i64 xa, .int .i64 xt, .int .i64 0] 74) ownD hg5 hDne.out; have hs5 := hB5.size; clear hg5 hv5 hb5 ownL y0 y1 y2 X1n hap ownD; obtain ⟨x0, x1, x2⟩ := X5.got; simp only at x0 x1 x2)
          | (at_builtin; refine wpList_app2 rfl (.tmp 59) (.tmp 61) rfl ELt rfl rfl (ownL5.alloc _) (m := 1) (news := (⟨xa, xt, xq⟩ : Lt).cells) rfl (by decide) (Sl.new_ _ _ _) (Lt.one _) (by unfold maxLen; omega) (by omega) (by simp only [World.size_alloc]; omega) ?_; intro A6 c6 w6 hown6 hg6 hv6 hb6)
          | fail)
        have ownD6 := own_apart (hown5.alloc (.cells #[.int .i64 xa, .int .i64 xt, .int .i64 xq] 74)) hap5.symm hg6
        have hap6 := (hap5.symm.grow (hown5.alloc (.cells #[.int .i64 xa, .int .i64 xt, .int .i64 xq] 74)) hv6).symm
        have hB6 := (since_alloc hB5 (.cells #[.int .i64 xa, .int .i64 xt, .int .i64 xq] 74)).trans hb6
        go_roundw
        case rel => exact ⟨k + 1, q, D ++ [⟨xa, xt, 0⟩], L ++ [⟨xa, xt, xq⟩], A5, c5, A6, c6, by omega, by go_num, rfl, by simp, by simp, by simpa [rc] using ownD6, by simpa [rc] using hown6, by simpa using hap6, by rw [List.length_append, HDk.out]; rfl, by rw [List.length_append, HLk.out]; rfl, HQ2.out.1, HQ2.out.2, HND.out, HNL.out, hB6⟩
        case measure => simp [intOf]; omega
    · obtain rfl : k = l.length := by omega
      have hTD := HTD.out
      have hTL := HTL.out
      rw [List.drop_eq_nil_of_le (Nat.le_refl _)] at hTD hTL
      simp only [drawF, List.append_nil] at hTD hTL
      subst hTD
      subst hTL
      have hBf := hBW.trans (hB.mono hWs)
      have hwr := hB.size
      have hDl : D.length ≤ 1000000 := by omega
      have hLl : L.length ≤ 1000000 := by omega
      have HD1 := Lib.hid (delfunc_beside W.heap.size c1 A1 D L.length c2 A2 _ wr hDl hwr ownD ownL hap)
      clear hDk hLk HTD HTL hqn hcz
      go_wp2_with fail
      refine HD1.out.mono ?_
      rintro e u1 ⟨⟨c3, rfl, own3⟩, hb1, ownL2⟩
      have hB1 := hB.trans hb1
      have hap2 : Apart (.slice A2 L.length c2) (.slice A1 (someL D).length c3) := fun g h1 h2 => hap g (by cases A1 with | none => simp [Value.ownBlock] at h2 | some ad => simpa [Value.ownBlock] using h2) h1
      have HD2 := Lib.hid (delfunc_beside W.heap.size c2 A2 L (someL D).length c3 A1 _ u1 hLl hB1.size ownL2 own3 hap2)
      go_wp2_with fail
      refine HD2.out.mono ?_
      rintro e u2 ⟨⟨c4, rfl, own4⟩, hb2, own3b⟩
      have hB2 := hB1.trans hb2
      go_wp2_with fail
      (try simp only [Exit.inBlock, Exit.then]); refine bodyPost_ret (results_tmp3 rfl _ _ _) rfl ?_
      exact ⟨⟨A1, c3, A2, c4, rfl, own_base own3b hWs, own_base own4 hWs⟩, hBW.trans (hB2.mono hWs)⟩
end Go.Proofs.Ytfagpdnckmaomaa
