/-
  Layer 7, twenty-first part: pieces as one; FrameBack (laid by gen_frame21.py).
-/
import Derived.Test.YtfibpkbbpnjepaaFrame20
namespace Go.Proofs.Ytfibpkbbpnjepaa
open Go.ChangeShapes Go.WideShapes Go.ChangeAt Go.RowKit
set_option linter.unusedVariables false
set_option linter.unusedSimpArgs false

def piecesF (life era seq : Int) (b : List Nat) (n k : Nat) : List Fr := (List.range k).map (piece life era seq b n)
theorem piecesF_len (life era seq : Int) (b : List Nat) (n k : Nat) : (piecesF life era seq b n k).length = k := by simp [piecesF]
theorem piecesF_data (life era seq : Int) (b : List Nat) (n : Nat) : ∀ k, dataJ (piecesF life era seq b n k) = b.take (80 * k)
  | 0 => by simp [piecesF, dataJ]
  | k + 1 => by
    have ih := piecesF_data life era seq b n k
    unfold piecesF dataJ at *
    rw [List.range_succ, List.map_append, List.map_append, List.flatten_append, ih, show 80 * (k + 1) = 80 * k + 80 by omega, List.take_add]
    simp [piece, seg]
theorem join_pieces {life era seq : Int} {b : List Nat} {n : Nat} (hn : partsN b.length = n) (hb : n ≤ 255) (hok : (piece life era seq b n 0).ok = true) : joinF (piecesF life era seq b n n) = (b, true) := by
  have hp : 0 < n := by rw [← hn]; exact partsN_pos _
  rw [joinF_good (f0 := piece life era seq b n 0), piecesF_data, List.take_of_length_le]
  · unfold partsN at hn; omega
  · simp [piecesF, hp]
  · rw [piecesF_len]; rfl
  · intro j f hj
    rw [piecesF_len]
    have hjn : j < n := by
      have := (List.getElem?_eq_some_iff.1 hj).1
      rwa [piecesF_len] at this
    have hf : f = piece life era seq b n j := by
      simp [piecesF, hjn] at hj
      exact hj.symm
    subst hf
    unfold goodJ
    rw [piece_ok hjn hb, hok, Bool.true_and]
    have e1 : decide ((piece life era seq b n j).life = (piece life era seq b n 0).life ∧ (piece life era seq b n j).era = (piece life era seq b n 0).era ∧ (piece life era seq b n j).seq = (piece life era seq b n 0).seq ∧ (piece life era seq b n j).parts = (piece life era seq b n 0).parts) = true := decide_eq_true ⟨rfl, rfl, rfl, rfl⟩
    have e2 : decide ((piece life era seq b n j).part = (j : Int)) = true := decide_eq_true rfl
    rw [e1, e2, Bool.true_and, Bool.true_and, Bool.not_eq_true', Bool.and_eq_false_iff]
    by_cases h : j + 1 < n
    · right
      have : (seg b (80 * j) 80).length = 80 := by
        unfold seg; rw [List.length_take, List.length_drop]
        unfold partsN at hn
        omega
      simp [piece, this]
    · left
      exact decide_eq_false h
theorem cutF_ways (life era seq : Int) (b : List Nat) : (∃ n, partsN b.length = n ∧ n ≤ 255 ∧ (piece life era seq b n 0).ok = true ∧ cutF life era seq b = ((piecesF life era seq b n n).map (fun f => sealed f.body), 0)) ∨ ∃ z : Int, (z = 6 ∨ z = 2) ∧ cutF life era seq b = ([], z) := by
  unfold cutF
  split
  · exact .inr ⟨6, .inl rfl, rfl⟩
  · split
    · refine .inl ⟨_, rfl, by omega, by assumption, ?_⟩
      unfold cellsF piecesF
      rw [List.map_map]
      rfl
    · exact .inr ⟨2, .inr rfl, rfl⟩
theorem cutF_noughts (n : Nat) : (n ≤ 20400 → ∃ R, cutF 1 0 1 (List.replicate n 0) = (R, 0)) ∧ (20400 < n → n ≤ 20410 → cutF 1 0 1 (List.replicate n 0) = ([], 6)) := by
  unfold cutF
  rw [List.length_replicate]
  constructor
  · intro h
    have hp := partsN_pos n
    have hq : ¬ 255 < partsN n := by unfold partsN; omega
    rw [if_neg hq, if_pos]
    · exact ⟨_, rfl⟩
    · rw [Fr.ok_iff]
      have := seg_le (List.replicate n 0) (80 * 0) 80
      refine ⟨?_, ?_, ?_, ?_, ?_, ?_, ?_, ?_, ?_, ?_, this⟩ <;> simp only [piece] <;> omega
  · intro h h2
    rw [if_pos (by unfold partsN; omega)]
theorem EFR : Elem Try.prog 49 25 6 64 := Elem.mk' (z := .agg #[.int .i64 0, .int .i64 0, .int .i64 0, .int .i64 0, .int .i64 0, .slice none 0 0]) (by kernel_rfl) (by kernel_rfl) (by decide) (by decide)
/-- a row of bytes is kept by what an append makes of a row of frames -/
theorem own_keptF {w w' : World} {B B' : Nat} {v v' : Value} {n n' : Nat} {xs ys : List Value} (h : w.ownsRow B 5 1 v n xs) (ho : w.ownsRow B' 25 6 v' n' ys) (hg : w.grownBy w' v'.ownBlock) : w'.ownsRow B 5 1 v n xs := by
  refine h.kept hg ?_
  rcases h.2 with ⟨rfl, _⟩ | ⟨g, cap, cur, rfl, _, hh, _⟩
  · exact .inl rfl
  · right
    rcases ho.2 with ⟨rfl, _⟩ | ⟨g', cap', cur', rfl, _, hh', _⟩
    · simp [Value.ownBlock]
    · simp only [Value.ownBlock, ne_eq, Option.some.injEq]
      intro e
      subst e
      rw [hh] at hh'
      injection hh' with hh'
      injection hh' with _ e
      exact absurd e (by decide)
/-- each frame's bytes lie in a row of the call's own -/
def OwnF (B : Nat) (w : World) (H : List Fh) : Prop := ∀ h ∈ H, w.ownsRow B 5 1 (.slice h.A h.f.data.length h.c) h.f.data.length (by8 h.f.data)
theorem OwnF.below {B : Nat} {w w' : World} {H : List Fh} (h : OwnF B w H) (hb : Below w.heap.size w w') : OwnF B w' H := fun s hs => own_below (h s hs) hb

set_option maxHeartbeats 16000000 in
set_option maxRecDepth 100000 in
theorem fback_ok_small_cut (f : Fr) (A : Option Addr) (c : Nat) (a1 a2 a3 a5 : Int) (a4 : Option Addr) (l : List Nat) (c4 N : Nat) (w : World) (hfc : f.data.length ≤ c) (hcm : c ≤ maxLen) (hsf : Sl w A (by8 f.data)) (hof : Oct f.data)
    (hlc : l.length ≤ c4) (hlm : c4 ≤ maxLen) (hsl : Sl w a4 (by8 l)) (hol : Oct l) (hN : clampI a5 20390 20410 = (N : Int)) (hN0 : 20390 ≤ N) (hN1 : N ≤ 20410) (hok : f.cut.ok = true) (hsm : N ≤ 20400)
    (P : Nat) (hP : partsN (l.take 400).length = P) (hP2 : P ≤ 255) (hPok : (piece a1 a2 a3 (l.take 400) P 0).ok = true) (hA : cutF a1 a2 a3 (l.take 400) = ((piecesF a1 a2 a3 (l.take 400) P P).map (fun f => sealed f.body), 0)) :
    Calls Try.prog 5 #[f.val A c, .int .i64 a1, .int .i64 a2, .int .i64 a3, .slice a4 l.length c4, .int .i64 a5] w fun e w' => e = .returned (.bool true) ∧ Below w.heap.size w w' := by
  have HSH := Lib.hid (fun V => short7_any f A c V hfc hcm)
  have HCT := Lib.hid (fun V => cut_any a4 l.length c4 400 V (by unfold maxLen at hlm; omega) (by omega) hlc (by unfold maxLen at hlm; omega))
  obtain ⟨b, hb⟩ : ∃ b, l.take 400 = b := ⟨_, rfl⟩
  have hbl : min l.length 400 = b.length := by rw [← hb]; simp; omega
  have hb4 : b.length ≤ 400 := by rw [← hb]; simp; omega
  have hsb : Sl w a4 (by8 b) := by rw [← hb, by8_take]; exact hsl.take _
  have hob : Oct b := fun x hx => hol x (by rw [← hb] at hx; exact List.mem_of_mem_take hx)
  rw [hbl] at HCT
  rw [hb] at hP hPok hA
  have hsg : Sl w A (by8 f.cut.data) := by unfold Fr.cut; simp only; rw [by8_take]; exact hsf.take _
  have hog : Oct f.cut.data := hof.take _
  have hgl : f.cut.data.length ≤ 90 := by simp [Fr.cut]; omega
  have HEN := Lib.hid (fun V h => fenc7_any f.cut A c V h hog)
  have HPL := Lib.hid (fun A c V => plain7_any f.cut A c V)
  have HXS := Lib.hid (fun A B c d V h1 h2 => rsame7_eq f.cut A B c d V (by omega) h1 h2)
  have HIN := Lib.hid (fun V => in_any a5 20390 20410 V)
  rw [hN] at HIN
  have HNC := Lib.hid (fun A V h => fcut7_any 1 0 1 A N (List.replicate N 0) V (by simp) (by unfold maxLen; omega) (by simp; omega) h Oct.rep)
  have HFC := Lib.hid (fun V h => fcut7_any a1 a2 a3 a4 c4 b V (by omega) hlm (by omega) h hob)
  rw [hA] at HFC
  have HLV := Lib.hid (fun V => lives7_any V)
  rw [show encF f.cut = (sealed f.cut.body, 0) from if_pos hok] at HEN
  have HDE := Lib.hid (fun A c V h1 h2 h3 => fdec7_enc f.cut A c V hok h1 h2 h3 hog)
  unfold DRes at HDE
  obtain ⟨EL, hEL⟩ : ∃ L, sealed f.cut.body = L := ⟨_, rfl⟩
  rw [hEL] at HEN HDE
  clear hEL
  obtain ⟨R0, hR0⟩ := (cutF_noughts N).1 hsm
  rw [hR0] at HNC
  have hs1 : (N : Int) ≤ 20400 := by omega
  clear hR0
  have HJN := Lib.hid (join_pieces hP hP2 hPok)
  obtain ⟨PS, hPS⟩ : ∃ PS, piecesF a1 a2 a3 b P P = PS := ⟨_, rfl⟩
  have hPl : PS.length = P := by rw [← hPS, piecesF_len]
  have HPK : Hid (∀ k, (hk : k < PS.length) → ∃ p q xd, PS[k] = ⟨a1, a2, a3, p, q, xd⟩ ∧ PS[k].ok = true ∧ Oct xd ∧ xd.length ≤ 80) := Lib.hid fun k hk => by
    have hkP : k < P := by omega
    have e : PS[k] = piece a1 a2 a3 b P k := by subst hPS; simp [piecesF]
    rw [e]
    exact ⟨_, _, _, rfl, (piece_ok hkP hP2).trans hPok, seg_oct hob _ _, seg_le _ _ _⟩
  rw [hPS] at HFC HJN
  obtain ⟨R, hR⟩ : ∃ R, PS.map (fun f => sealed f.body) = R := ⟨_, rfl⟩
  have hRl : R.length = PS.length := by rw [← hR]; simp
  have hRl2 : R.length ≤ 255 := by omega
  have HRK : Hid (∀ k, (hk : k < R.length) → (hk2 : k < PS.length) → R[k] = sealed PS[k].body) := Lib.hid fun k hk hk2 => by subst hR; simp
  rw [hR] at HFC
  have HRL := Lib.hid hRl
  have HSM := Lib.hid (fun A A2 c c2 V h1 h2 => same_n A A2 c c2 b.length b.length b b V rfl rfl (by unfold maxLen; omega) (by unfold maxLen; omega) h1 h2)
  simp only [decide_true] at HSM
  have HBL := Lib.hid hb4
  clear hP hP2 hPok hPS hPl hR hRl
  unfold ERes at HEN
  simp only at HEN
  generalize hgg : f.cut = g at *
  obtain ⟨g0, g1, g2, g3, g4, gd⟩ := g
  obtain ⟨f0, f1, f2, f3, f4, fd⟩ := f
  unfold Fr.val at *
  simp only at *
  clear hgg hfc hcm hof hlc hlm hsl hol hb hbl hb4 hob hog hgl hsf hA hok hN hsm
  have hsb := hsb.alloc (.cells #[.int .i64 f0, .int .i64 f1, .int .i64 f2, .int .i64 f3, .int .i64 f4, .slice A fd.length c] 24)
  have hsg := hsg.alloc (.cells #[.int .i64 f0, .int .i64 f1, .int .i64 f2, .int .i64 f3, .int .i64 f4, .slice A fd.length c] 24)
  have hB := since_alloc (Below.refl _ w) (.cells #[.int .i64 f0, .int .i64 f1, .int .i64 f2, .int .i64 f3, .int .i64 f4, .slice A fd.length c] 24)
  have hK := Bk.new w #[.int .i64 f0, .int .i64 f1, .int .i64 f2, .int .i64 f3, .int .i64 f4, .slice A fd.length c] 24
  obtain ⟨fn, hfn⟩ : ∃ n, fd.length = n := ⟨_, rfl⟩
  obtain ⟨gn, hgn⟩ : ∃ n, gd.length = n := ⟨_, rfl⟩
  obtain ⟨bn, hbn⟩ : ∃ n, b.length = n := ⟨_, rfl⟩
  obtain ⟨ln, hln⟩ : ∃ n, l.length = n := ⟨_, rfl⟩
  rw [hfn] at hsb hsg hB hK HSH ⊢
  rw [hgn] at HSH HEN HPL HXS HDE
  rw [hbn] at HCT HFC HSM HBL
  rw [hln] at HCT ⊢
  have HBN := Lib.hid hbn
  clear hfn hgn hbn hln
  simp only [List.length_replicate] at HNC
  go_enter Try.func5, Try.ntmps5
  go_upto_region 1 with fail
  generalize hWW : w.alloc (.cells #[.int .i64 f0, .int .i64 f1, .int .i64 f2, .int .i64 f3, .int .i64 f4, .slice A fn c] 24) = W at *
  clear hWW
  obtain ⟨hK_0, hK_1, hK_2, hK_3, hK_4, hK_5, hK_6⟩ := hK.six
  go_wp2_with fail
  refine (HSH.out _).mono ?_
  rintro e z1 ⟨rfl, hb⟩
  have hB := since_step hB hb
  have hK := hK.below hb
  have hsb := hsb.below hb
  have hsg := hsg.below hb
  clear hb
  clear hK_0 hK_1 hK_2 hK_3 hK_4 hK_5 hK_6
  clear hK
  go_wp2_with fail
  refine (HCT.out _).mono ?_
  rintro e y1 ⟨rfl, rfl⟩
  go_upto_region 2 with fail
  have hG := Bk.new z1 #[.int .i64 g0, .int .i64 g1, .int .i64 g2, .int .i64 g3, .int .i64 g4, .slice A gn c] 25
  have hA := (Below.refl z1.heap.size z1).alloc (Nat.le_refl _) (.cells #[.int .i64 g0, .int .i64 g1, .int .i64 g2, .int .i64 g3, .int .i64 g4, .slice A gn c] 25)
  have hsb := hsb.below hA
  have hsg := hsg.below hA
  have hB := since_step hB hA
  clear hA
  generalize hWW : z1.alloc (.cells #[.int .i64 g0, .int .i64 g1, .int .i64 g2, .int .i64 g3, .int .i64 g4, .slice A gn c] 25) = W2 at *
  clear hWW
  obtain ⟨hG_0, hG_1, hG_2, hG_3, hG_4, hG_5, hG_6⟩ := hG.six
  go_wp2_with fail
  refine (HEN.out _ hsg).mono ?_
  rintro e z2 ⟨⟨AE, cE, rfl, ownE⟩, hb⟩
  have hB := since_step hB hb
  have hsb := hsb.below hb
  have hsg := hsg.below hb
  have hG := hG.below hb
  clear hb
  clear hG_0 hG_1 hG_2 hG_3 hG_4 hG_5 hG_6
  have hlE := Lib.hid (own_le ownE)
  have hmE := Lib.hid (own_max ownE)
  have hE := Sl.of_own ownE
  clear ownE
  obtain ⟨hG_0, hG_1, hG_2, hG_3, hG_4, hG_5, hG_6⟩ := hG.six
  go_wp2_with fail
  refine (HDE.out _ _ _ hlE.out hmE.out hE).mono ?_
  rintro e z3 ⟨⟨AX, cX, rfl, ownX⟩, hb⟩
  have hB := since_step hB hb
  have hsb := hsb.below hb
  have hsg := hsg.below hb
  have hG := hG.below hb
  have hE := hE.below hb
  clear hb
  clear hG_0 hG_1 hG_2 hG_3 hG_4 hG_5 hG_6
  have hX := Sl.of_own ownX
  clear ownX
  clear hE
  obtain ⟨hG_0, hG_1, hG_2, hG_3, hG_4, hG_5, hG_6⟩ := hG.six
  simp only at hX ⊢
  skip
  go_upto_region 5 with fail
  have hXB := Bk.new z3 #[.int .i64 g0, .int .i64 g1, .int .i64 g2, .int .i64 g3, .int .i64 g4, .slice AX gn cX] 25
  have hA := (Below.refl z3.heap.size z3).alloc (Nat.le_refl _) (.cells #[.int .i64 g0, .int .i64 g1, .int .i64 g2, .int .i64 g3, .int .i64 g4, .slice AX gn cX] 25)
  have hsb := hsb.below hA
  have hsg := hsg.below hA
  have hG := hG.below hA
  have hX := hX.below hA
  have hB := since_step hB hA
  clear hA
  generalize hWW : z3.alloc (.cells #[.int .i64 g0, .int .i64 g1, .int .i64 g2, .int .i64 g3, .int .i64 g4, .slice AX gn cX] 25) = U at *
  clear hWW
  clear hG_0 hG_1 hG_2 hG_3 hG_4 hG_5 hG_6
  have hszU := hB.size
  have HX : Hid (∀ V, Below U.heap.size U V → Sl V AX (by8 gd)) := Lib.hid fun V h => hX.below h
  have HG : Hid (∀ V, Below U.heap.size U V → Sl V A (by8 gd)) := Lib.hid fun V h => hsg.below h
  have HSB : Hid (∀ V, Below U.heap.size U V → Sl V a4 (by8 b)) := Lib.hid fun V h => hsb.below h
  have HXB := Lib.hid (fun V (h : Below U.heap.size U V) => (hXB.below h).six)
  have HGB := Lib.hid (fun V (h : Below U.heap.size U V) => (hG.below h).six)
  clear hsg hX hsb hXB hG
  go_wp2_with fail
  refine wp_region_held_drew (S := (fun V => Below U.heap.size U V)) (by kernel_rfl) (by exact (Below.refl _ _).drew) (fun hHeld => ?_)
  refine wpAnyH_take (i := 0) (oi := { dst := some 43, op := _, type := _, pos := _, after := _, guard := _ }) (v := ?_) rfl (by kernel_rfl) (by kernel_rfl) (by kernel_rfl) (fun _ _ _ h => h) (Or.inl ⟨by rfl, ?_⟩) hHeld ?_
  rotate_left
  · (intro w hSw; obtain ⟨qx, qx0, qx1, qx2, qx3, qx4, qx5⟩ := HXB.out _ hSw; obtain ⟨qy, qy0, qy1, qy2, qy3, qy4, qy5⟩ := HGB.out _ hSw; go_simp <;> with_reducible rfl)
  try simp only [Act.put, List.setIfInBounds_toArray, List.set_cons_zero, List.set_cons_succ]
  refine wpAnyH_take (i := 1) (oi := { dst := some 44, op := _, type := _, pos := _, after := _, guard := _ }) (v := ?_) rfl (by kernel_rfl) (by kernel_rfl) (by kernel_rfl) (fun _ _ _ h => h) (Or.inl ⟨by rfl, ?_⟩) hHeld ?_
  rotate_left
  · (intro w hSw; obtain ⟨qx, qx0, qx1, qx2, qx3, qx4, qx5⟩ := HXB.out _ hSw; obtain ⟨qy, qy0, qy1, qy2, qy3, qy4, qy5⟩ := HGB.out _ hSw; go_simp <;> with_reducible rfl)
  try simp only [Act.put, List.setIfInBounds_toArray, List.set_cons_zero, List.set_cons_succ]
  refine wpAnyH_take (i := 2) (oi := { dst := some 45, op := _, type := _, pos := _, after := _, guard := _ }) (v := ?_) rfl (by kernel_rfl) (by kernel_rfl) (by kernel_rfl) (fun _ _ _ h => h) (Or.inl ⟨by rfl, ?_⟩) hHeld ?_
  rotate_left
  · (intro w hSw; obtain ⟨qx, qx0, qx1, qx2, qx3, qx4, qx5⟩ := HXB.out _ hSw; obtain ⟨qy, qy0, qy1, qy2, qy3, qy4, qy5⟩ := HGB.out _ hSw; go_simp <;> with_reducible rfl)
  try simp only [Act.put, List.setIfInBounds_toArray, List.set_cons_zero, List.set_cons_succ]
  refine wpAnyH_take (i := 3) (oi := { dst := some 46, op := _, type := _, pos := _, after := _, guard := _ }) (v := ?_) rfl (by kernel_rfl) (by kernel_rfl) (by kernel_rfl) (fun _ _ _ h => h) (Or.inl ⟨by rfl, ?_⟩) hHeld ?_
  rotate_left
  · (intro w hSw; obtain ⟨qx, qx0, qx1, qx2, qx3, qx4, qx5⟩ := HXB.out _ hSw; obtain ⟨qy, qy0, qy1, qy2, qy3, qy4, qy5⟩ := HGB.out _ hSw; go_simp <;> with_reducible rfl)
  try simp only [Act.put, List.setIfInBounds_toArray, List.set_cons_zero, List.set_cons_succ]
  refine wpAnyH_take (i := 5) (oi := { dst := some 48, op := _, type := _, pos := _, after := _, guard := _ }) (v := ?_) rfl (by kernel_rfl) (by kernel_rfl) (by kernel_rfl) (fun _ _ _ h => h) (Or.inl ⟨by rfl, ?_⟩) hHeld ?_
  rotate_left
  · (intro w hSw; obtain ⟨qx, qx0, qx1, qx2, qx3, qx4, qx5⟩ := HXB.out _ hSw; obtain ⟨qy, qy0, qy1, qy2, qy3, qy4, qy5⟩ := HGB.out _ hSw; go_simp <;> with_reducible rfl)
  try simp only [Act.put, List.setIfInBounds_toArray, List.set_cons_zero, List.set_cons_succ]
  refine wpAnyH_ready (rs := [4]) (by kernel_rfl) (by simp) ?_
  refine AllReadyH.cons (o := { dst := some 47, op := _, type := _, pos := _, after := _, guard := _ }) rfl (fun K hK => ?_) AllReadyH.nil
  go_simp
  refine (HPL.out _ _ _).mono ?_
  rintro e u4 ⟨rfl, hk4⟩
  have hKeep := since_step hHeld hk4
  go_wp2_with fail
  refine hK.out _ _ (by (try dsimp only); exact hKeep) (fun hHeld => ?_)
  clear hK K hKeep
  try simp only [Act.put, List.setIfInBounds_toArray, List.set_cons_zero, List.set_cons_succ]
  refine wpAnyH_ready (rs := [6]) (by kernel_rfl) (by simp) ?_
  refine AllReadyH.cons (o := { dst := some 49, op := _, type := _, pos := _, after := _, guard := _ }) rfl (fun K hK => ?_) AllReadyH.nil
  go_simp
  refine (HPL.out _ _ _).mono ?_
  rintro e u6 ⟨rfl, hk6⟩
  have hKeep := since_step hHeld hk6
  go_wp2_with fail
  refine hK.out _ _ (by (try dsimp only); exact hKeep) (fun hHeld => ?_)
  clear hK K hKeep
  try simp only [Act.put, List.setIfInBounds_toArray, List.set_cons_zero, List.set_cons_succ]
  refine wpAnyH_ready (rs := [7]) (by kernel_rfl) (by simp) ?_
  refine AllReadyH.cons (o := { dst := some 50, op := _, type := _, pos := _, after := _, guard := _ }) rfl (fun K hK => ?_) AllReadyH.nil
  go_simp
  refine (HXS.out _ _ _ _ _ (HX.out _ hHeld) (HG.out _ hHeld)).mono ?_
  rintro e u7 ⟨rfl, hk7⟩
  have hKeep := since_step hHeld hk7
  go_wp2_with fail
  refine hK.out _ _ (by (try dsimp only); exact hKeep) (fun hHeld => ?_)
  clear hK K hKeep
  try simp only [Act.put, List.setIfInBounds_toArray, List.set_cons_zero, List.set_cons_succ]
  refine wpAnyH_take (i := 8) (oi := { dst := some 51, op := _, type := _, pos := _, after := _, guard := _ }) (v := ?_) rfl (by kernel_rfl) (by kernel_rfl) (by kernel_rfl) (fun _ _ _ h => h) (Or.inl ⟨by rfl, ?_⟩) hHeld ?_
  rotate_left
  · (intro w hSw; obtain ⟨qx, qx0, qx1, qx2, qx3, qx4, qx5⟩ := HXB.out _ hSw; obtain ⟨qy, qy0, qy1, qy2, qy3, qy4, qy5⟩ := HGB.out _ hSw; go_simp <;> with_reducible rfl)
  try simp only [Act.put, List.setIfInBounds_toArray, List.set_cons_zero, List.set_cons_succ]
  refine wpAnyH_take (i := 9) (oi := { dst := some 52, op := _, type := _, pos := _, after := _, guard := _ }) (v := ?_) rfl (by kernel_rfl) (by kernel_rfl) (by kernel_rfl) (fun _ _ _ h => h) (Or.inl ⟨by rfl, ?_⟩) hHeld ?_
  rotate_left
  · (intro w hSw; obtain ⟨qx, qx0, qx1, qx2, qx3, qx4, qx5⟩ := HXB.out _ hSw; obtain ⟨qy, qy0, qy1, qy2, qy3, qy4, qy5⟩ := HGB.out _ hSw; go_simp <;> with_reducible rfl)
  try simp only [Act.put, List.setIfInBounds_toArray, List.set_cons_zero, List.set_cons_succ]
  refine wpAnyH_done (by kernel_rfl) ?_ _
  have hBf := hB.trans (hHeld.mono hszU)
  have hsb := HSB.out _ hHeld
  clear hB hszU HX HG HSB HXB HGB hHeld
  go_wp2_with fail
  refine (HIN.out _).mono ?_
  rintro e yy ⟨rfl, rfl⟩
  go_wp2_with (first
    | (at_make; refine wpList_zeros8 rfl (.tmp 56) (.tmp 56) rfl N rfl rfl rfl rfl (by omega) (Nat.le_refl _) ?_; intro w1 own1 hb1)
    | fail)
  have hBf := since_step hBf hb1
  have hsb := hsb.below hb1
  refine (HNC.out _ _ (Sl.of_own own1)).mono ?_
  rintro e w2 ⟨hC, hb2⟩
  have hBf := since_step hBf hb2
  have hsb := hsb.below hb2
  obtain ⟨AN, dN, rfl, _⟩ := hC.rows
  clear hC own1 hb1 hb2
  simp only [List.length_nil]
  go_wp2_with fail
  refine (HFC.out _ hsb).mono ?_
  rintro e w3 ⟨hC, hb3⟩
  have hBf := since_step hBf hb3
  have hsb := hsb.below hb3
  obtain ⟨AR, dR, rfl, rR⟩ := hC.rows
  clear hC hb3
  go_wp2_with fail
  have hW0 : w.heap.size ≤ w3.heap.size := hBf.size
  have HB0 := Lib.hid hBf
  go_loopw [21, 22] (fun av iv wr => ∃ (k : Nat) (A2 : Option Addr) (c2 : Nat) (H : List Fh), k ≤ R.length ∧ av = .slice A2 H.length c2 ∧ iv = .int .i64 k ∧ wr.ownsRow w3.heap.size 25 6 (.slice A2 H.length c2) H.length (rc Fh.cells H) ∧ H.map Fh.f = PS.take k ∧ OwnF w3.heap.size wr H ∧ Below w3.heap.size w3 wr) (fun _ iv _ => R.length - (intOf iv).toNat)
  case atStart => exact ⟨0, _, _, [], Nat.zero_le _, rfl, rfl, own_nil _ _ _, rfl, (fun s hs => by cases hs), Below.refl _ _⟩
  case round =>
    obtain ⟨k, A2, c2, H, hk, rfl, rfl, own2, hmap, hown, hBz⟩ := hrel
    have HMAP := Lib.hid hmap
    have hHk : H.length = k := by have := congrArg List.length hmap; rw [List.length_map, List.length_take] at this; have := HRL.out; omega
    clear hmap
    rw [hHk] at own2 ⊢
    have HHK := Lib.hid hHk
    clear hHk
    by_cases hlt : k < R.length
    · have hlk : (k : Int) < (R.length : Int) := by omega
      have hgk : (0 : Int) ≤ (k : Int) := by omega
      have hks : IntKind.i64.wrap ((k : Int) + 1) = (k : Int) + 1 := IntWalk.i64_in _ (by omega)
      have hlt2 : k < PS.length := by have := HRL.out; omega
      obtain ⟨b1, o1, P1, e1, rfl, hb1, q1, s1, l1, m1⟩ := (rR.below hBz).at_ hlt
      have hRK := HRK.out k hlt hlt2
      obtain ⟨p, q, xd, hX, hXok, hXo, hXl⟩ := HPK.out k hlt2
      rw [hX] at hRK hXok
      rw [hRK] at q1 s1 l1
      have HTK : Hid (PS.take (k + 1) = PS.take k ++ [⟨a1, a2, a3, p, q, xd⟩]) := Lib.hid (by rw [List.take_succ_eq_append_getElem hlt2, hX])
      have HDX := Lib.hid (fun V h => fdec7_enc ⟨a1, a2, a3, p, q, xd⟩ P1 e1 V hXok l1 m1 h hXo)
      obtain ⟨Q, hQ⟩ : ∃ Q, sealed (Fr.body ⟨a1, a2, a3, p, q, xd⟩) = Q := ⟨_, rfl⟩
      rw [hQ] at HDX q1 s1
      obtain ⟨qn, hqn⟩ : ∃ n, Q.length = n := ⟨_, rfl⟩
      rw [hqn] at HDX q1
      unfold DRes Fr.val at HDX
      simp only at HDX
      have HXL := Lib.hid hXl
      clear hRK hX hXok hXo hXl l1 m1 hQ hqn hlt2
      go_wp2_with fail
      refine (HDX.out _ s1).mono ?_
      rintro e v2 ⟨⟨A5, c5, rfl, own5⟩, hb2⟩
      have hBz2 := since_step hBz hb2
      have own2 := own_below own2 hb2
      have hown := hown.below hb2
      have own5 := own_base own5 hBz.size
      have hsz2 := hBz2.size
      clear q1 s1 hb1 hb2 HDX
      obtain ⟨xn, hxn⟩ : ∃ n, xd.length = n := ⟨_, rfl⟩
      have HXN := Lib.hid hxn
      rw [hxn] at own5 ⊢
      clear hxn
      go_wp2_with (first
        | (at_builtin; refine wpList_app rfl (.tmp 124) (.tmp 126) rfl EFR rfl rfl ((own2.alloc _).alloc _) (m := 1) (news := [.int .i64 a1, .int .i64 a2, .int .i64 a3, .int .i64 p, .int .i64 q, .slice A5 xn c5]) rfl (Sl.new1 _ _ _ _) (fun u hu => by
            simp only [List.mem_cons, List.not_mem_nil, or_false] at hu
            rcases hu with h | h | h | h | h | h <;> subst h <;> rfl) (by unfold maxLen; omega) (by omega) (by rw [World.size_alloc, World.size_alloc]; omega) ?_; intro A6 c6 x6 own6 hg6 hb6)
        | fail)
      have hown6 : OwnF w3.heap.size x6 (H ++ [⟨⟨a1, a2, a3, p, q, xd⟩, A5, c5⟩]) := (fun s hs => by
        rcases List.mem_append.1 hs with hs | hs
        · exact own_keptF (((hown s hs).alloc _).alloc _) ((own2.alloc _).alloc _) hg6
        · obtain rfl : s = ⟨⟨a1, a2, a3, p, q, xd⟩, A5, c5⟩ := by simpa using hs
          simp only
          rw [HXN.out]
          exact own_keptF ((own5.alloc _).alloc _) ((own2.alloc _).alloc _) hg6)
      have hB6 := (since_alloc (since_alloc hBz2 (.cells #[.int .i64 a1, .int .i64 a2, .int .i64 a3, .int .i64 p, .int .i64 q, .slice A5 xn c5] 25)) (.cells #[.int .i64 a1, .int .i64 a2, .int .i64 a3, .int .i64 p, .int .i64 q, .slice A5 xn c5] 25)).trans hb6
      go_roundw
      case rel =>
        refine ⟨k + 1, A6, c6, H ++ [⟨⟨a1, a2, a3, p, q, xd⟩, A5, c5⟩], by omega, by rw [List.length_append, HHK.out]; rfl, by go_num, ?_, by rw [List.map_append, HMAP.out, HTK.out]; rfl, hown6, hB6⟩
        rw [rc_append, List.length_append, HHK.out]
        simp only [rc, List.map_cons, List.map_nil, List.flatten_cons, List.flatten_nil, Fh.cells, List.append_nil, List.length_cons, List.length_nil]
        rw [HXN.out]
        exact own6
      case measure => simp [intOf]; omega
    · obtain rfl : k = R.length := by omega
      have hmp : H.map Fh.f = PS := by rw [HMAP.out, List.take_of_length_le (by have := HRL.out; omega)]
      have HJ := Lib.hid (fjoin7_any A2 c2 H wr (by have := HHK.out; omega) (Sl.of_own own2) (fun h hh => by
        refine ⟨Sl.of_own (hown h hh), ?_⟩
        have hm : h.f ∈ PS := by rw [← hmp]; exact List.mem_map_of_mem hh
        obtain ⟨j, hj, e⟩ := List.mem_iff_getElem.1 hm
        obtain ⟨p, q, xd, hX, _, _, hl⟩ := HPK.out j hj
        rw [← e, hX]
        simp only
        omega))
      rw [hmp, HJN.out, HHK.out] at HJ
      simp only at HJ
      rw [HBN.out] at HJ
      clear hmp
      go_wp2_with fail
      refine HJ.out.mono ?_
      rintro e v2 ⟨⟨A6, c6, rfl, own6⟩, hb2⟩
      have hBz2 := since_step hBz hb2
      have h6 := Sl.of_own own6
      have hsb := hsb.below hBz2
      clear own6 hb2
      go_wp2_with fail
      refine (HSM.out _ _ _ _ _ h6 hsb).mono ?_
      rintro e v3 ⟨rfl, n3, rfl⟩
      go_wp2_with fail
      refine (HLV.out _).mono ?_
      rintro e v4 ⟨rfl, hb4⟩
      have hBz4 := since_step (below_drewN hBz2 n3) hb4
      have hBf := since_step HB0.out hBz4
      go_wp2_with fail
      go_ret
      exact ⟨rfl, hBf⟩

set_option maxHeartbeats 16000000 in
set_option maxRecDepth 100000 in
theorem fback_ok_small_none (f : Fr) (A : Option Addr) (c : Nat) (a1 a2 a3 a5 : Int) (a4 : Option Addr) (l : List Nat) (c4 N : Nat) (w : World) (hfc : f.data.length ≤ c) (hcm : c ≤ maxLen) (hsf : Sl w A (by8 f.data)) (hof : Oct f.data)
    (hlc : l.length ≤ c4) (hlm : c4 ≤ maxLen) (hsl : Sl w a4 (by8 l)) (hol : Oct l) (hN : clampI a5 20390 20410 = (N : Int)) (hN0 : 20390 ≤ N) (hN1 : N ≤ 20410) (hok : f.cut.ok = true) (hsm : N ≤ 20400)
    (z : Int) (hz : z = 6 ∨ z = 2) (hA : cutF a1 a2 a3 (l.take 400) = ([], z)) :
    Calls Try.prog 5 #[f.val A c, .int .i64 a1, .int .i64 a2, .int .i64 a3, .slice a4 l.length c4, .int .i64 a5] w fun e w' => e = .returned (.bool true) ∧ Below w.heap.size w w' := by
  have HSH := Lib.hid (fun V => short7_any f A c V hfc hcm)
  have HCT := Lib.hid (fun V => cut_any a4 l.length c4 400 V (by unfold maxLen at hlm; omega) (by omega) hlc (by unfold maxLen at hlm; omega))
  obtain ⟨b, hb⟩ : ∃ b, l.take 400 = b := ⟨_, rfl⟩
  have hbl : min l.length 400 = b.length := by rw [← hb]; simp; omega
  have hb4 : b.length ≤ 400 := by rw [← hb]; simp; omega
  have hsb : Sl w a4 (by8 b) := by rw [← hb, by8_take]; exact hsl.take _
  have hob : Oct b := fun x hx => hol x (by rw [← hb] at hx; exact List.mem_of_mem_take hx)
  rw [hbl] at HCT
  rw [hb] at hA
  have hsg : Sl w A (by8 f.cut.data) := by unfold Fr.cut; simp only; rw [by8_take]; exact hsf.take _
  have hog : Oct f.cut.data := hof.take _
  have hgl : f.cut.data.length ≤ 90 := by simp [Fr.cut]; omega
  have HEN := Lib.hid (fun V h => fenc7_any f.cut A c V h hog)
  have HPL := Lib.hid (fun A c V => plain7_any f.cut A c V)
  have HXS := Lib.hid (fun A B c d V h1 h2 => rsame7_eq f.cut A B c d V (by omega) h1 h2)
  have HIN := Lib.hid (fun V => in_any a5 20390 20410 V)
  rw [hN] at HIN
  have HNC := Lib.hid (fun A V h => fcut7_any 1 0 1 A N (List.replicate N 0) V (by simp) (by unfold maxLen; omega) (by simp; omega) h Oct.rep)
  have HFC := Lib.hid (fun V h => fcut7_any a1 a2 a3 a4 c4 b V (by omega) hlm (by omega) h hob)
  rw [hA] at HFC
  have HLV := Lib.hid (fun V => lives7_any V)
  rw [show encF f.cut = (sealed f.cut.body, 0) from if_pos hok] at HEN
  have HDE := Lib.hid (fun A c V h1 h2 h3 => fdec7_enc f.cut A c V hok h1 h2 h3 hog)
  unfold DRes at HDE
  obtain ⟨EL, hEL⟩ : ∃ L, sealed f.cut.body = L := ⟨_, rfl⟩
  rw [hEL] at HEN HDE
  clear hEL
  obtain ⟨R0, hR0⟩ := (cutF_noughts N).1 hsm
  rw [hR0] at HNC
  have hs1 : (N : Int) ≤ 20400 := by omega
  clear hR0
  have hz0 : ¬ z = 0 := by rcases hz with rfl | rfl <;> decide
  have hz1 : (z != 0) = true := by simp [hz0]
  unfold ERes at HEN
  simp only at HEN
  generalize hgg : f.cut = g at *
  obtain ⟨g0, g1, g2, g3, g4, gd⟩ := g
  obtain ⟨f0, f1, f2, f3, f4, fd⟩ := f
  unfold Fr.val at *
  simp only at *
  clear hgg hfc hcm hof hlc hlm hsl hol hb hbl hb4 hob hog hgl hsf hA hok hN hsm hz
  have hsb := hsb.alloc (.cells #[.int .i64 f0, .int .i64 f1, .int .i64 f2, .int .i64 f3, .int .i64 f4, .slice A fd.length c] 24)
  have hsg := hsg.alloc (.cells #[.int .i64 f0, .int .i64 f1, .int .i64 f2, .int .i64 f3, .int .i64 f4, .slice A fd.length c] 24)
  have hB := since_alloc (Below.refl _ w) (.cells #[.int .i64 f0, .int .i64 f1, .int .i64 f2, .int .i64 f3, .int .i64 f4, .slice A fd.length c] 24)
  have hK := Bk.new w #[.int .i64 f0, .int .i64 f1, .int .i64 f2, .int .i64 f3, .int .i64 f4, .slice A fd.length c] 24
  obtain ⟨fn, hfn⟩ : ∃ n, fd.length = n := ⟨_, rfl⟩
  obtain ⟨gn, hgn⟩ : ∃ n, gd.length = n := ⟨_, rfl⟩
  obtain ⟨bn, hbn⟩ : ∃ n, b.length = n := ⟨_, rfl⟩
  obtain ⟨ln, hln⟩ : ∃ n, l.length = n := ⟨_, rfl⟩
  rw [hfn] at hsb hsg hB hK HSH ⊢
  rw [hgn] at HSH HEN HPL HXS HDE
  rw [hbn] at HCT HFC
  rw [hln] at HCT ⊢
  skip
  clear hfn hgn hbn hln
  simp only [List.length_replicate] at HNC
  go_enter Try.func5, Try.ntmps5
  go_upto_region 1 with fail
  generalize hWW : w.alloc (.cells #[.int .i64 f0, .int .i64 f1, .int .i64 f2, .int .i64 f3, .int .i64 f4, .slice A fn c] 24) = W at *
  clear hWW
  obtain ⟨hK_0, hK_1, hK_2, hK_3, hK_4, hK_5, hK_6⟩ := hK.six
  go_wp2_with fail
  refine (HSH.out _).mono ?_
  rintro e z1 ⟨rfl, hb⟩
  have hB := since_step hB hb
  have hK := hK.below hb
  have hsb := hsb.below hb
  have hsg := hsg.below hb
  clear hb
  clear hK_0 hK_1 hK_2 hK_3 hK_4 hK_5 hK_6
  clear hK
  go_wp2_with fail
  refine (HCT.out _).mono ?_
  rintro e y1 ⟨rfl, rfl⟩
  go_upto_region 2 with fail
  have hG := Bk.new z1 #[.int .i64 g0, .int .i64 g1, .int .i64 g2, .int .i64 g3, .int .i64 g4, .slice A gn c] 25
  have hA := (Below.refl z1.heap.size z1).alloc (Nat.le_refl _) (.cells #[.int .i64 g0, .int .i64 g1, .int .i64 g2, .int .i64 g3, .int .i64 g4, .slice A gn c] 25)
  have hsb := hsb.below hA
  have hsg := hsg.below hA
  have hB := since_step hB hA
  clear hA
  generalize hWW : z1.alloc (.cells #[.int .i64 g0, .int .i64 g1, .int .i64 g2, .int .i64 g3, .int .i64 g4, .slice A gn c] 25) = W2 at *
  clear hWW
  obtain ⟨hG_0, hG_1, hG_2, hG_3, hG_4, hG_5, hG_6⟩ := hG.six
  go_wp2_with fail
  refine (HEN.out _ hsg).mono ?_
  rintro e z2 ⟨⟨AE, cE, rfl, ownE⟩, hb⟩
  have hB := since_step hB hb
  have hsb := hsb.below hb
  have hsg := hsg.below hb
  have hG := hG.below hb
  clear hb
  clear hG_0 hG_1 hG_2 hG_3 hG_4 hG_5 hG_6
  have hlE := Lib.hid (own_le ownE)
  have hmE := Lib.hid (own_max ownE)
  have hE := Sl.of_own ownE
  clear ownE
  obtain ⟨hG_0, hG_1, hG_2, hG_3, hG_4, hG_5, hG_6⟩ := hG.six
  go_wp2_with fail
  refine (HDE.out _ _ _ hlE.out hmE.out hE).mono ?_
  rintro e z3 ⟨⟨AX, cX, rfl, ownX⟩, hb⟩
  have hB := since_step hB hb
  have hsb := hsb.below hb
  have hsg := hsg.below hb
  have hG := hG.below hb
  have hE := hE.below hb
  clear hb
  clear hG_0 hG_1 hG_2 hG_3 hG_4 hG_5 hG_6
  have hX := Sl.of_own ownX
  clear ownX
  clear hE
  obtain ⟨hG_0, hG_1, hG_2, hG_3, hG_4, hG_5, hG_6⟩ := hG.six
  simp only at hX ⊢
  skip
  go_upto_region 5 with fail
  have hXB := Bk.new z3 #[.int .i64 g0, .int .i64 g1, .int .i64 g2, .int .i64 g3, .int .i64 g4, .slice AX gn cX] 25
  have hA := (Below.refl z3.heap.size z3).alloc (Nat.le_refl _) (.cells #[.int .i64 g0, .int .i64 g1, .int .i64 g2, .int .i64 g3, .int .i64 g4, .slice AX gn cX] 25)
  have hsb := hsb.below hA
  have hsg := hsg.below hA
  have hG := hG.below hA
  have hX := hX.below hA
  have hB := since_step hB hA
  clear hA
  generalize hWW : z3.alloc (.cells #[.int .i64 g0, .int .i64 g1, .int .i64 g2, .int .i64 g3, .int .i64 g4, .slice AX gn cX] 25) = U at *
  clear hWW
  clear hG_0 hG_1 hG_2 hG_3 hG_4 hG_5 hG_6
  have hszU := hB.size
  have HX : Hid (∀ V, Below U.heap.size U V → Sl V AX (by8 gd)) := Lib.hid fun V h => hX.below h
  have HG : Hid (∀ V, Below U.heap.size U V → Sl V A (by8 gd)) := Lib.hid fun V h => hsg.below h
  have HSB : Hid (∀ V, Below U.heap.size U V → Sl V a4 (by8 b)) := Lib.hid fun V h => hsb.below h
  have HXB := Lib.hid (fun V (h : Below U.heap.size U V) => (hXB.below h).six)
  have HGB := Lib.hid (fun V (h : Below U.heap.size U V) => (hG.below h).six)
  clear hsg hX hsb hXB hG
  go_wp2_with fail
  refine wp_region_held_drew (S := (fun V => Below U.heap.size U V)) (by kernel_rfl) (by exact (Below.refl _ _).drew) (fun hHeld => ?_)
  refine wpAnyH_take (i := 0) (oi := { dst := some 43, op := _, type := _, pos := _, after := _, guard := _ }) (v := ?_) rfl (by kernel_rfl) (by kernel_rfl) (by kernel_rfl) (fun _ _ _ h => h) (Or.inl ⟨by rfl, ?_⟩) hHeld ?_
  rotate_left
  · (intro w hSw; obtain ⟨qx, qx0, qx1, qx2, qx3, qx4, qx5⟩ := HXB.out _ hSw; obtain ⟨qy, qy0, qy1, qy2, qy3, qy4, qy5⟩ := HGB.out _ hSw; go_simp <;> with_reducible rfl)
  try simp only [Act.put, List.setIfInBounds_toArray, List.set_cons_zero, List.set_cons_succ]
  refine wpAnyH_take (i := 1) (oi := { dst := some 44, op := _, type := _, pos := _, after := _, guard := _ }) (v := ?_) rfl (by kernel_rfl) (by kernel_rfl) (by kernel_rfl) (fun _ _ _ h => h) (Or.inl ⟨by rfl, ?_⟩) hHeld ?_
  rotate_left
  · (intro w hSw; obtain ⟨qx, qx0, qx1, qx2, qx3, qx4, qx5⟩ := HXB.out _ hSw; obtain ⟨qy, qy0, qy1, qy2, qy3, qy4, qy5⟩ := HGB.out _ hSw; go_simp <;> with_reducible rfl)
  try simp only [Act.put, List.setIfInBounds_toArray, List.set_cons_zero, List.set_cons_succ]
  refine wpAnyH_take (i := 2) (oi := { dst := some 45, op := _, type := _, pos := _, after := _, guard := _ }) (v := ?_) rfl (by kernel_rfl) (by kernel_rfl) (by kernel_rfl) (fun _ _ _ h => h) (Or.inl ⟨by rfl, ?_⟩) hHeld ?_
  rotate_left
  · (intro w hSw; obtain ⟨qx, qx0, qx1, qx2, qx3, qx4, qx5⟩ := HXB.out _ hSw; obtain ⟨qy, qy0, qy1, qy2, qy3, qy4, qy5⟩ := HGB.out _ hSw; go_simp <;> with_reducible rfl)
  try simp only [Act.put, List.setIfInBounds_toArray, List.set_cons_zero, List.set_cons_succ]
  refine wpAnyH_take (i := 3) (oi := { dst := some 46, op := _, type := _, pos := _, after := _, guard := _ }) (v := ?_) rfl (by kernel_rfl) (by kernel_rfl) (by kernel_rfl) (fun _ _ _ h => h) (Or.inl ⟨by rfl, ?_⟩) hHeld ?_
  rotate_left
  · (intro w hSw; obtain ⟨qx, qx0, qx1, qx2, qx3, qx4, qx5⟩ := HXB.out _ hSw; obtain ⟨qy, qy0, qy1, qy2, qy3, qy4, qy5⟩ := HGB.out _ hSw; go_simp <;> with_reducible rfl)
  try simp only [Act.put, List.setIfInBounds_toArray, List.set_cons_zero, List.set_cons_succ]
  refine wpAnyH_take (i := 5) (oi := { dst := some 48, op := _, type := _, pos := _, after := _, guard := _ }) (v := ?_) rfl (by kernel_rfl) (by kernel_rfl) (by kernel_rfl) (fun _ _ _ h => h) (Or.inl ⟨by rfl, ?_⟩) hHeld ?_
  rotate_left
  · (intro w hSw; obtain ⟨qx, qx0, qx1, qx2, qx3, qx4, qx5⟩ := HXB.out _ hSw; obtain ⟨qy, qy0, qy1, qy2, qy3, qy4, qy5⟩ := HGB.out _ hSw; go_simp <;> with_reducible rfl)
  try simp only [Act.put, List.setIfInBounds_toArray, List.set_cons_zero, List.set_cons_succ]
  refine wpAnyH_ready (rs := [4]) (by kernel_rfl) (by simp) ?_
  refine AllReadyH.cons (o := { dst := some 47, op := _, type := _, pos := _, after := _, guard := _ }) rfl (fun K hK => ?_) AllReadyH.nil
  go_simp
  refine (HPL.out _ _ _).mono ?_
  rintro e u4 ⟨rfl, hk4⟩
  have hKeep := since_step hHeld hk4
  go_wp2_with fail
  refine hK.out _ _ (by (try dsimp only); exact hKeep) (fun hHeld => ?_)
  clear hK K hKeep
  try simp only [Act.put, List.setIfInBounds_toArray, List.set_cons_zero, List.set_cons_succ]
  refine wpAnyH_ready (rs := [6]) (by kernel_rfl) (by simp) ?_
  refine AllReadyH.cons (o := { dst := some 49, op := _, type := _, pos := _, after := _, guard := _ }) rfl (fun K hK => ?_) AllReadyH.nil
  go_simp
  refine (HPL.out _ _ _).mono ?_
  rintro e u6 ⟨rfl, hk6⟩
  have hKeep := since_step hHeld hk6
  go_wp2_with fail
  refine hK.out _ _ (by (try dsimp only); exact hKeep) (fun hHeld => ?_)
  clear hK K hKeep
  try simp only [Act.put, List.setIfInBounds_toArray, List.set_cons_zero, List.set_cons_succ]
  refine wpAnyH_ready (rs := [7]) (by kernel_rfl) (by simp) ?_
  refine AllReadyH.cons (o := { dst := some 50, op := _, type := _, pos := _, after := _, guard := _ }) rfl (fun K hK => ?_) AllReadyH.nil
  go_simp
  refine (HXS.out _ _ _ _ _ (HX.out _ hHeld) (HG.out _ hHeld)).mono ?_
  rintro e u7 ⟨rfl, hk7⟩
  have hKeep := since_step hHeld hk7
  go_wp2_with fail
  refine hK.out _ _ (by (try dsimp only); exact hKeep) (fun hHeld => ?_)
  clear hK K hKeep
  try simp only [Act.put, List.setIfInBounds_toArray, List.set_cons_zero, List.set_cons_succ]
  refine wpAnyH_take (i := 8) (oi := { dst := some 51, op := _, type := _, pos := _, after := _, guard := _ }) (v := ?_) rfl (by kernel_rfl) (by kernel_rfl) (by kernel_rfl) (fun _ _ _ h => h) (Or.inl ⟨by rfl, ?_⟩) hHeld ?_
  rotate_left
  · (intro w hSw; obtain ⟨qx, qx0, qx1, qx2, qx3, qx4, qx5⟩ := HXB.out _ hSw; obtain ⟨qy, qy0, qy1, qy2, qy3, qy4, qy5⟩ := HGB.out _ hSw; go_simp <;> with_reducible rfl)
  try simp only [Act.put, List.setIfInBounds_toArray, List.set_cons_zero, List.set_cons_succ]
  refine wpAnyH_take (i := 9) (oi := { dst := some 52, op := _, type := _, pos := _, after := _, guard := _ }) (v := ?_) rfl (by kernel_rfl) (by kernel_rfl) (by kernel_rfl) (fun _ _ _ h => h) (Or.inl ⟨by rfl, ?_⟩) hHeld ?_
  rotate_left
  · (intro w hSw; obtain ⟨qx, qx0, qx1, qx2, qx3, qx4, qx5⟩ := HXB.out _ hSw; obtain ⟨qy, qy0, qy1, qy2, qy3, qy4, qy5⟩ := HGB.out _ hSw; go_simp <;> with_reducible rfl)
  try simp only [Act.put, List.setIfInBounds_toArray, List.set_cons_zero, List.set_cons_succ]
  refine wpAnyH_done (by kernel_rfl) ?_ _
  have hBf := hB.trans (hHeld.mono hszU)
  have hsb := HSB.out _ hHeld
  clear hB hszU HX HG HSB HXB HGB hHeld
  go_wp2_with fail
  refine (HIN.out _).mono ?_
  rintro e yy ⟨rfl, rfl⟩
  go_wp2_with (first
    | (at_make; refine wpList_zeros8 rfl (.tmp 56) (.tmp 56) rfl N rfl rfl rfl rfl (by omega) (Nat.le_refl _) ?_; intro w1 own1 hb1)
    | fail)
  have hBf := since_step hBf hb1
  have hsb := hsb.below hb1
  refine (HNC.out _ _ (Sl.of_own own1)).mono ?_
  rintro e w2 ⟨hC, hb2⟩
  have hBf := since_step hBf hb2
  have hsb := hsb.below hb2
  obtain ⟨AN, dN, rfl, _⟩ := hC.rows
  clear hC own1 hb1 hb2
  simp only [List.length_nil]
  go_wp2_with fail
  refine (HFC.out _ hsb).mono ?_
  rintro e w3 ⟨hC, hb3⟩
  have hBf := since_step hBf hb3
  have hsb := hsb.below hb3
  obtain ⟨AR, dR, rfl, rR⟩ := hC.rows
  clear hC hb3
  go_wp2_with fail
  refine (HLV.out _).mono ?_
  rintro e w4 ⟨rfl, hb4⟩
  have hBf := since_step hBf hb4
  go_wp2_with fail
  go_ret
  exact ⟨rfl, hBf⟩

set_option maxHeartbeats 16000000 in
set_option maxRecDepth 100000 in
theorem fback_ok_big_cut (f : Fr) (A : Option Addr) (c : Nat) (a1 a2 a3 a5 : Int) (a4 : Option Addr) (l : List Nat) (c4 N : Nat) (w : World) (hfc : f.data.length ≤ c) (hcm : c ≤ maxLen) (hsf : Sl w A (by8 f.data)) (hof : Oct f.data)
    (hlc : l.length ≤ c4) (hlm : c4 ≤ maxLen) (hsl : Sl w a4 (by8 l)) (hol : Oct l) (hN : clampI a5 20390 20410 = (N : Int)) (hN0 : 20390 ≤ N) (hN1 : N ≤ 20410) (hok : f.cut.ok = true) (hsm : 20400 < N)
    (P : Nat) (hP : partsN (l.take 400).length = P) (hP2 : P ≤ 255) (hPok : (piece a1 a2 a3 (l.take 400) P 0).ok = true) (hA : cutF a1 a2 a3 (l.take 400) = ((piecesF a1 a2 a3 (l.take 400) P P).map (fun f => sealed f.body), 0)) :
    Calls Try.prog 5 #[f.val A c, .int .i64 a1, .int .i64 a2, .int .i64 a3, .slice a4 l.length c4, .int .i64 a5] w fun e w' => e = .returned (.bool true) ∧ Below w.heap.size w w' := by
  have HSH := Lib.hid (fun V => short7_any f A c V hfc hcm)
  have HCT := Lib.hid (fun V => cut_any a4 l.length c4 400 V (by unfold maxLen at hlm; omega) (by omega) hlc (by unfold maxLen at hlm; omega))
  obtain ⟨b, hb⟩ : ∃ b, l.take 400 = b := ⟨_, rfl⟩
  have hbl : min l.length 400 = b.length := by rw [← hb]; simp; omega
  have hb4 : b.length ≤ 400 := by rw [← hb]; simp; omega
  have hsb : Sl w a4 (by8 b) := by rw [← hb, by8_take]; exact hsl.take _
  have hob : Oct b := fun x hx => hol x (by rw [← hb] at hx; exact List.mem_of_mem_take hx)
  rw [hbl] at HCT
  rw [hb] at hP hPok hA
  have hsg : Sl w A (by8 f.cut.data) := by unfold Fr.cut; simp only; rw [by8_take]; exact hsf.take _
  have hog : Oct f.cut.data := hof.take _
  have hgl : f.cut.data.length ≤ 90 := by simp [Fr.cut]; omega
  have HEN := Lib.hid (fun V h => fenc7_any f.cut A c V h hog)
  have HPL := Lib.hid (fun A c V => plain7_any f.cut A c V)
  have HXS := Lib.hid (fun A B c d V h1 h2 => rsame7_eq f.cut A B c d V (by omega) h1 h2)
  have HIN := Lib.hid (fun V => in_any a5 20390 20410 V)
  rw [hN] at HIN
  have HNC := Lib.hid (fun A V h => fcut7_any 1 0 1 A N (List.replicate N 0) V (by simp) (by unfold maxLen; omega) (by simp; omega) h Oct.rep)
  have HFC := Lib.hid (fun V h => fcut7_any a1 a2 a3 a4 c4 b V (by omega) hlm (by omega) h hob)
  rw [hA] at HFC
  have HLV := Lib.hid (fun V => lives7_any V)
  rw [show encF f.cut = (sealed f.cut.body, 0) from if_pos hok] at HEN
  have HDE := Lib.hid (fun A c V h1 h2 h3 => fdec7_enc f.cut A c V hok h1 h2 h3 hog)
  unfold DRes at HDE
  obtain ⟨EL, hEL⟩ : ∃ L, sealed f.cut.body = L := ⟨_, rfl⟩
  rw [hEL] at HEN HDE
  clear hEL
  rw [(cutF_noughts N).2 hsm hN1] at HNC
  have hs1 : ¬ (N : Int) ≤ 20400 := by omega
  have hs2 : (20400 : Int) < (N : Int) := by omega
  have HJN := Lib.hid (join_pieces hP hP2 hPok)
  obtain ⟨PS, hPS⟩ : ∃ PS, piecesF a1 a2 a3 b P P = PS := ⟨_, rfl⟩
  have hPl : PS.length = P := by rw [← hPS, piecesF_len]
  have HPK : Hid (∀ k, (hk : k < PS.length) → ∃ p q xd, PS[k] = ⟨a1, a2, a3, p, q, xd⟩ ∧ PS[k].ok = true ∧ Oct xd ∧ xd.length ≤ 80) := Lib.hid fun k hk => by
    have hkP : k < P := by omega
    have e : PS[k] = piece a1 a2 a3 b P k := by subst hPS; simp [piecesF]
    rw [e]
    exact ⟨_, _, _, rfl, (piece_ok hkP hP2).trans hPok, seg_oct hob _ _, seg_le _ _ _⟩
  rw [hPS] at HFC HJN
  obtain ⟨R, hR⟩ : ∃ R, PS.map (fun f => sealed f.body) = R := ⟨_, rfl⟩
  have hRl : R.length = PS.length := by rw [← hR]; simp
  have hRl2 : R.length ≤ 255 := by omega
  have HRK : Hid (∀ k, (hk : k < R.length) → (hk2 : k < PS.length) → R[k] = sealed PS[k].body) := Lib.hid fun k hk hk2 => by subst hR; simp
  rw [hR] at HFC
  have HRL := Lib.hid hRl
  have HSM := Lib.hid (fun A A2 c c2 V h1 h2 => same_n A A2 c c2 b.length b.length b b V rfl rfl (by unfold maxLen; omega) (by unfold maxLen; omega) h1 h2)
  simp only [decide_true] at HSM
  have HBL := Lib.hid hb4
  clear hP hP2 hPok hPS hPl hR hRl
  unfold ERes at HEN
  simp only at HEN
  generalize hgg : f.cut = g at *
  obtain ⟨g0, g1, g2, g3, g4, gd⟩ := g
  obtain ⟨f0, f1, f2, f3, f4, fd⟩ := f
  unfold Fr.val at *
  simp only at *
  clear hgg hfc hcm hof hlc hlm hsl hol hb hbl hb4 hob hog hgl hsf hA hok hN hsm
  have hsb := hsb.alloc (.cells #[.int .i64 f0, .int .i64 f1, .int .i64 f2, .int .i64 f3, .int .i64 f4, .slice A fd.length c] 24)
  have hsg := hsg.alloc (.cells #[.int .i64 f0, .int .i64 f1, .int .i64 f2, .int .i64 f3, .int .i64 f4, .slice A fd.length c] 24)
  have hB := since_alloc (Below.refl _ w) (.cells #[.int .i64 f0, .int .i64 f1, .int .i64 f2, .int .i64 f3, .int .i64 f4, .slice A fd.length c] 24)
  have hK := Bk.new w #[.int .i64 f0, .int .i64 f1, .int .i64 f2, .int .i64 f3, .int .i64 f4, .slice A fd.length c] 24
  obtain ⟨fn, hfn⟩ : ∃ n, fd.length = n := ⟨_, rfl⟩
  obtain ⟨gn, hgn⟩ : ∃ n, gd.length = n := ⟨_, rfl⟩
  obtain ⟨bn, hbn⟩ : ∃ n, b.length = n := ⟨_, rfl⟩
  obtain ⟨ln, hln⟩ : ∃ n, l.length = n := ⟨_, rfl⟩
  rw [hfn] at hsb hsg hB hK HSH ⊢
  rw [hgn] at HSH HEN HPL HXS HDE
  rw [hbn] at HCT HFC HSM HBL
  rw [hln] at HCT ⊢
  have HBN := Lib.hid hbn
  clear hfn hgn hbn hln
  simp only [List.length_replicate] at HNC
  go_enter Try.func5, Try.ntmps5
  go_upto_region 1 with fail
  generalize hWW : w.alloc (.cells #[.int .i64 f0, .int .i64 f1, .int .i64 f2, .int .i64 f3, .int .i64 f4, .slice A fn c] 24) = W at *
  clear hWW
  obtain ⟨hK_0, hK_1, hK_2, hK_3, hK_4, hK_5, hK_6⟩ := hK.six
  go_wp2_with fail
  refine (HSH.out _).mono ?_
  rintro e z1 ⟨rfl, hb⟩
  have hB := since_step hB hb
  have hK := hK.below hb
  have hsb := hsb.below hb
  have hsg := hsg.below hb
  clear hb
  clear hK_0 hK_1 hK_2 hK_3 hK_4 hK_5 hK_6
  clear hK
  go_wp2_with fail
  refine (HCT.out _).mono ?_
  rintro e y1 ⟨rfl, rfl⟩
  go_upto_region 2 with fail
  have hG := Bk.new z1 #[.int .i64 g0, .int .i64 g1, .int .i64 g2, .int .i64 g3, .int .i64 g4, .slice A gn c] 25
  have hA := (Below.refl z1.heap.size z1).alloc (Nat.le_refl _) (.cells #[.int .i64 g0, .int .i64 g1, .int .i64 g2, .int .i64 g3, .int .i64 g4, .slice A gn c] 25)
  have hsb := hsb.below hA
  have hsg := hsg.below hA
  have hB := since_step hB hA
  clear hA
  generalize hWW : z1.alloc (.cells #[.int .i64 g0, .int .i64 g1, .int .i64 g2, .int .i64 g3, .int .i64 g4, .slice A gn c] 25) = W2 at *
  clear hWW
  obtain ⟨hG_0, hG_1, hG_2, hG_3, hG_4, hG_5, hG_6⟩ := hG.six
  go_wp2_with fail
  refine (HEN.out _ hsg).mono ?_
  rintro e z2 ⟨⟨AE, cE, rfl, ownE⟩, hb⟩
  have hB := since_step hB hb
  have hsb := hsb.below hb
  have hsg := hsg.below hb
  have hG := hG.below hb
  clear hb
  clear hG_0 hG_1 hG_2 hG_3 hG_4 hG_5 hG_6
  have hlE := Lib.hid (own_le ownE)
  have hmE := Lib.hid (own_max ownE)
  have hE := Sl.of_own ownE
  clear ownE
  obtain ⟨hG_0, hG_1, hG_2, hG_3, hG_4, hG_5, hG_6⟩ := hG.six
  go_wp2_with fail
  refine (HDE.out _ _ _ hlE.out hmE.out hE).mono ?_
  rintro e z3 ⟨⟨AX, cX, rfl, ownX⟩, hb⟩
  have hB := since_step hB hb
  have hsb := hsb.below hb
  have hsg := hsg.below hb
  have hG := hG.below hb
  have hE := hE.below hb
  clear hb
  clear hG_0 hG_1 hG_2 hG_3 hG_4 hG_5 hG_6
  have hX := Sl.of_own ownX
  clear ownX
  clear hE
  obtain ⟨hG_0, hG_1, hG_2, hG_3, hG_4, hG_5, hG_6⟩ := hG.six
  simp only at hX ⊢
  skip
  go_upto_region 5 with fail
  have hXB := Bk.new z3 #[.int .i64 g0, .int .i64 g1, .int .i64 g2, .int .i64 g3, .int .i64 g4, .slice AX gn cX] 25
  have hA := (Below.refl z3.heap.size z3).alloc (Nat.le_refl _) (.cells #[.int .i64 g0, .int .i64 g1, .int .i64 g2, .int .i64 g3, .int .i64 g4, .slice AX gn cX] 25)
  have hsb := hsb.below hA
  have hsg := hsg.below hA
  have hG := hG.below hA
  have hX := hX.below hA
  have hB := since_step hB hA
  clear hA
  generalize hWW : z3.alloc (.cells #[.int .i64 g0, .int .i64 g1, .int .i64 g2, .int .i64 g3, .int .i64 g4, .slice AX gn cX] 25) = U at *
  clear hWW
  clear hG_0 hG_1 hG_2 hG_3 hG_4 hG_5 hG_6
  have hszU := hB.size
  have HX : Hid (∀ V, Below U.heap.size U V → Sl V AX (by8 gd)) := Lib.hid fun V h => hX.below h
  have HG : Hid (∀ V, Below U.heap.size U V → Sl V A (by8 gd)) := Lib.hid fun V h => hsg.below h
  have HSB : Hid (∀ V, Below U.heap.size U V → Sl V a4 (by8 b)) := Lib.hid fun V h => hsb.below h
  have HXB := Lib.hid (fun V (h : Below U.heap.size U V) => (hXB.below h).six)
  have HGB := Lib.hid (fun V (h : Below U.heap.size U V) => (hG.below h).six)
  clear hsg hX hsb hXB hG
  go_wp2_with fail
  refine wp_region_held_drew (S := (fun V => Below U.heap.size U V)) (by kernel_rfl) (by exact (Below.refl _ _).drew) (fun hHeld => ?_)
  refine wpAnyH_take (i := 0) (oi := { dst := some 43, op := _, type := _, pos := _, after := _, guard := _ }) (v := ?_) rfl (by kernel_rfl) (by kernel_rfl) (by kernel_rfl) (fun _ _ _ h => h) (Or.inl ⟨by rfl, ?_⟩) hHeld ?_
  rotate_left
  · (intro w hSw; obtain ⟨qx, qx0, qx1, qx2, qx3, qx4, qx5⟩ := HXB.out _ hSw; obtain ⟨qy, qy0, qy1, qy2, qy3, qy4, qy5⟩ := HGB.out _ hSw; go_simp <;> with_reducible rfl)
  try simp only [Act.put, List.setIfInBounds_toArray, List.set_cons_zero, List.set_cons_succ]
  refine wpAnyH_take (i := 1) (oi := { dst := some 44, op := _, type := _, pos := _, after := _, guard := _ }) (v := ?_) rfl (by kernel_rfl) (by kernel_rfl) (by kernel_rfl) (fun _ _ _ h => h) (Or.inl ⟨by rfl, ?_⟩) hHeld ?_
  rotate_left
  · (intro w hSw; obtain ⟨qx, qx0, qx1, qx2, qx3, qx4, qx5⟩ := HXB.out _ hSw; obtain ⟨qy, qy0, qy1, qy2, qy3, qy4, qy5⟩ := HGB.out _ hSw; go_simp <;> with_reducible rfl)
  try simp only [Act.put, List.setIfInBounds_toArray, List.set_cons_zero, List.set_cons_succ]
  refine wpAnyH_take (i := 2) (oi := { dst := some 45, op := _, type := _, pos := _, after := _, guard := _ }) (v := ?_) rfl (by kernel_rfl) (by kernel_rfl) (by kernel_rfl) (fun _ _ _ h => h) (Or.inl ⟨by rfl, ?_⟩) hHeld ?_
  rotate_left
  · (intro w hSw; obtain ⟨qx, qx0, qx1, qx2, qx3, qx4, qx5⟩ := HXB.out _ hSw; obtain ⟨qy, qy0, qy1, qy2, qy3, qy4, qy5⟩ := HGB.out _ hSw; go_simp <;> with_reducible rfl)
  try simp only [Act.put, List.setIfInBounds_toArray, List.set_cons_zero, List.set_cons_succ]
  refine wpAnyH_take (i := 3) (oi := { dst := some 46, op := _, type := _, pos := _, after := _, guard := _ }) (v := ?_) rfl (by kernel_rfl) (by kernel_rfl) (by kernel_rfl) (fun _ _ _ h => h) (Or.inl ⟨by rfl, ?_⟩) hHeld ?_
  rotate_left
  · (intro w hSw; obtain ⟨qx, qx0, qx1, qx2, qx3, qx4, qx5⟩ := HXB.out _ hSw; obtain ⟨qy, qy0, qy1, qy2, qy3, qy4, qy5⟩ := HGB.out _ hSw; go_simp <;> with_reducible rfl)
  try simp only [Act.put, List.setIfInBounds_toArray, List.set_cons_zero, List.set_cons_succ]
  refine wpAnyH_take (i := 5) (oi := { dst := some 48, op := _, type := _, pos := _, after := _, guard := _ }) (v := ?_) rfl (by kernel_rfl) (by kernel_rfl) (by kernel_rfl) (fun _ _ _ h => h) (Or.inl ⟨by rfl, ?_⟩) hHeld ?_
  rotate_left
  · (intro w hSw; obtain ⟨qx, qx0, qx1, qx2, qx3, qx4, qx5⟩ := HXB.out _ hSw; obtain ⟨qy, qy0, qy1, qy2, qy3, qy4, qy5⟩ := HGB.out _ hSw; go_simp <;> with_reducible rfl)
  try simp only [Act.put, List.setIfInBounds_toArray, List.set_cons_zero, List.set_cons_succ]
  refine wpAnyH_ready (rs := [4]) (by kernel_rfl) (by simp) ?_
  refine AllReadyH.cons (o := { dst := some 47, op := _, type := _, pos := _, after := _, guard := _ }) rfl (fun K hK => ?_) AllReadyH.nil
  go_simp
  refine (HPL.out _ _ _).mono ?_
  rintro e u4 ⟨rfl, hk4⟩
  have hKeep := since_step hHeld hk4
  go_wp2_with fail
  refine hK.out _ _ (by (try dsimp only); exact hKeep) (fun hHeld => ?_)
  clear hK K hKeep
  try simp only [Act.put, List.setIfInBounds_toArray, List.set_cons_zero, List.set_cons_succ]
  refine wpAnyH_ready (rs := [6]) (by kernel_rfl) (by simp) ?_
  refine AllReadyH.cons (o := { dst := some 49, op := _, type := _, pos := _, after := _, guard := _ }) rfl (fun K hK => ?_) AllReadyH.nil
  go_simp
  refine (HPL.out _ _ _).mono ?_
  rintro e u6 ⟨rfl, hk6⟩
  have hKeep := since_step hHeld hk6
  go_wp2_with fail
  refine hK.out _ _ (by (try dsimp only); exact hKeep) (fun hHeld => ?_)
  clear hK K hKeep
  try simp only [Act.put, List.setIfInBounds_toArray, List.set_cons_zero, List.set_cons_succ]
  refine wpAnyH_ready (rs := [7]) (by kernel_rfl) (by simp) ?_
  refine AllReadyH.cons (o := { dst := some 50, op := _, type := _, pos := _, after := _, guard := _ }) rfl (fun K hK => ?_) AllReadyH.nil
  go_simp
  refine (HXS.out _ _ _ _ _ (HX.out _ hHeld) (HG.out _ hHeld)).mono ?_
  rintro e u7 ⟨rfl, hk7⟩
  have hKeep := since_step hHeld hk7
  go_wp2_with fail
  refine hK.out _ _ (by (try dsimp only); exact hKeep) (fun hHeld => ?_)
  clear hK K hKeep
  try simp only [Act.put, List.setIfInBounds_toArray, List.set_cons_zero, List.set_cons_succ]
  refine wpAnyH_take (i := 8) (oi := { dst := some 51, op := _, type := _, pos := _, after := _, guard := _ }) (v := ?_) rfl (by kernel_rfl) (by kernel_rfl) (by kernel_rfl) (fun _ _ _ h => h) (Or.inl ⟨by rfl, ?_⟩) hHeld ?_
  rotate_left
  · (intro w hSw; obtain ⟨qx, qx0, qx1, qx2, qx3, qx4, qx5⟩ := HXB.out _ hSw; obtain ⟨qy, qy0, qy1, qy2, qy3, qy4, qy5⟩ := HGB.out _ hSw; go_simp <;> with_reducible rfl)
  try simp only [Act.put, List.setIfInBounds_toArray, List.set_cons_zero, List.set_cons_succ]
  refine wpAnyH_take (i := 9) (oi := { dst := some 52, op := _, type := _, pos := _, after := _, guard := _ }) (v := ?_) rfl (by kernel_rfl) (by kernel_rfl) (by kernel_rfl) (fun _ _ _ h => h) (Or.inl ⟨by rfl, ?_⟩) hHeld ?_
  rotate_left
  · (intro w hSw; obtain ⟨qx, qx0, qx1, qx2, qx3, qx4, qx5⟩ := HXB.out _ hSw; obtain ⟨qy, qy0, qy1, qy2, qy3, qy4, qy5⟩ := HGB.out _ hSw; go_simp <;> with_reducible rfl)
  try simp only [Act.put, List.setIfInBounds_toArray, List.set_cons_zero, List.set_cons_succ]
  refine wpAnyH_done (by kernel_rfl) ?_ _
  have hBf := hB.trans (hHeld.mono hszU)
  have hsb := HSB.out _ hHeld
  clear hB hszU HX HG HSB HXB HGB hHeld
  go_wp2_with fail
  refine (HIN.out _).mono ?_
  rintro e yy ⟨rfl, rfl⟩
  go_wp2_with (first
    | (at_make; refine wpList_zeros8 rfl (.tmp 56) (.tmp 56) rfl N rfl rfl rfl rfl (by omega) (Nat.le_refl _) ?_; intro w1 own1 hb1)
    | fail)
  have hBf := since_step hBf hb1
  have hsb := hsb.below hb1
  refine (HNC.out _ _ (Sl.of_own own1)).mono ?_
  rintro e w2 ⟨hC, hb2⟩
  have hBf := since_step hBf hb2
  have hsb := hsb.below hb2
  obtain ⟨AN, dN, rfl, _⟩ := hC.rows
  clear hC own1 hb1 hb2
  simp only [List.length_nil]
  go_wp2_with fail
  refine (HFC.out _ hsb).mono ?_
  rintro e w3 ⟨hC, hb3⟩
  have hBf := since_step hBf hb3
  have hsb := hsb.below hb3
  obtain ⟨AR, dR, rfl, rR⟩ := hC.rows
  clear hC hb3
  go_wp2_with fail
  have hW0 : w.heap.size ≤ w3.heap.size := hBf.size
  have HB0 := Lib.hid hBf
  go_loopw [21, 22] (fun av iv wr => ∃ (k : Nat) (A2 : Option Addr) (c2 : Nat) (H : List Fh), k ≤ R.length ∧ av = .slice A2 H.length c2 ∧ iv = .int .i64 k ∧ wr.ownsRow w3.heap.size 25 6 (.slice A2 H.length c2) H.length (rc Fh.cells H) ∧ H.map Fh.f = PS.take k ∧ OwnF w3.heap.size wr H ∧ Below w3.heap.size w3 wr) (fun _ iv _ => R.length - (intOf iv).toNat)
  case atStart => exact ⟨0, _, _, [], Nat.zero_le _, rfl, rfl, own_nil _ _ _, rfl, (fun s hs => by cases hs), Below.refl _ _⟩
  case round =>
    obtain ⟨k, A2, c2, H, hk, rfl, rfl, own2, hmap, hown, hBz⟩ := hrel
    have HMAP := Lib.hid hmap
    have hHk : H.length = k := by have := congrArg List.length hmap; rw [List.length_map, List.length_take] at this; have := HRL.out; omega
    clear hmap
    rw [hHk] at own2 ⊢
    have HHK := Lib.hid hHk
    clear hHk
    by_cases hlt : k < R.length
    · have hlk : (k : Int) < (R.length : Int) := by omega
      have hgk : (0 : Int) ≤ (k : Int) := by omega
      have hks : IntKind.i64.wrap ((k : Int) + 1) = (k : Int) + 1 := IntWalk.i64_in _ (by omega)
      have hlt2 : k < PS.length := by have := HRL.out; omega
      obtain ⟨b1, o1, P1, e1, rfl, hb1, q1, s1, l1, m1⟩ := (rR.below hBz).at_ hlt
      have hRK := HRK.out k hlt hlt2
      obtain ⟨p, q, xd, hX, hXok, hXo, hXl⟩ := HPK.out k hlt2
      rw [hX] at hRK hXok
      rw [hRK] at q1 s1 l1
      have HTK : Hid (PS.take (k + 1) = PS.take k ++ [⟨a1, a2, a3, p, q, xd⟩]) := Lib.hid (by rw [List.take_succ_eq_append_getElem hlt2, hX])
      have HDX := Lib.hid (fun V h => fdec7_enc ⟨a1, a2, a3, p, q, xd⟩ P1 e1 V hXok l1 m1 h hXo)
      obtain ⟨Q, hQ⟩ : ∃ Q, sealed (Fr.body ⟨a1, a2, a3, p, q, xd⟩) = Q := ⟨_, rfl⟩
      rw [hQ] at HDX q1 s1
      obtain ⟨qn, hqn⟩ : ∃ n, Q.length = n := ⟨_, rfl⟩
      rw [hqn] at HDX q1
      unfold DRes Fr.val at HDX
      simp only at HDX
      have HXL := Lib.hid hXl
      clear hRK hX hXok hXo hXl l1 m1 hQ hqn hlt2
      go_wp2_with fail
      refine (HDX.out _ s1).mono ?_
      rintro e v2 ⟨⟨A5, c5, rfl, own5⟩, hb2⟩
      have hBz2 := since_step hBz hb2
      have own2 := own_below own2 hb2
      have hown := hown.below hb2
      have own5 := own_base own5 hBz.size
      have hsz2 := hBz2.size
      clear q1 s1 hb1 hb2 HDX
      obtain ⟨xn, hxn⟩ : ∃ n, xd.length = n := ⟨_, rfl⟩
      have HXN := Lib.hid hxn
      rw [hxn] at own5 ⊢
      clear hxn
      go_wp2_with (first
        | (at_builtin; refine wpList_app rfl (.tmp 124) (.tmp 126) rfl EFR rfl rfl ((own2.alloc _).alloc _) (m := 1) (news := [.int .i64 a1, .int .i64 a2, .int .i64 a3, .int .i64 p, .int .i64 q, .slice A5 xn c5]) rfl (Sl.new1 _ _ _ _) (fun u hu => by
            simp only [List.mem_cons, List.not_mem_nil, or_false] at hu
            rcases hu with h | h | h | h | h | h <;> subst h <;> rfl) (by unfold maxLen; omega) (by omega) (by rw [World.size_alloc, World.size_alloc]; omega) ?_; intro A6 c6 x6 own6 hg6 hb6)
        | fail)
      have hown6 : OwnF w3.heap.size x6 (H ++ [⟨⟨a1, a2, a3, p, q, xd⟩, A5, c5⟩]) := (fun s hs => by
        rcases List.mem_append.1 hs with hs | hs
        · exact own_keptF (((hown s hs).alloc _).alloc _) ((own2.alloc _).alloc _) hg6
        · obtain rfl : s = ⟨⟨a1, a2, a3, p, q, xd⟩, A5, c5⟩ := by simpa using hs
          simp only
          rw [HXN.out]
          exact own_keptF ((own5.alloc _).alloc _) ((own2.alloc _).alloc _) hg6)
      have hB6 := (since_alloc (since_alloc hBz2 (.cells #[.int .i64 a1, .int .i64 a2, .int .i64 a3, .int .i64 p, .int .i64 q, .slice A5 xn c5] 25)) (.cells #[.int .i64 a1, .int .i64 a2, .int .i64 a3, .int .i64 p, .int .i64 q, .slice A5 xn c5] 25)).trans hb6
      go_roundw
      case rel =>
        refine ⟨k + 1, A6, c6, H ++ [⟨⟨a1, a2, a3, p, q, xd⟩, A5, c5⟩], by omega, by rw [List.length_append, HHK.out]; rfl, by go_num, ?_, by rw [List.map_append, HMAP.out, HTK.out]; rfl, hown6, hB6⟩
        rw [rc_append, List.length_append, HHK.out]
        simp only [rc, List.map_cons, List.map_nil, List.flatten_cons, List.flatten_nil, Fh.cells, List.append_nil, List.length_cons, List.length_nil]
        rw [HXN.out]
        exact own6
      case measure => simp [intOf]; omega
    · obtain rfl : k = R.length := by omega
      have hmp : H.map Fh.f = PS := by rw [HMAP.out, List.take_of_length_le (by have := HRL.out; omega)]
      have HJ := Lib.hid (fjoin7_any A2 c2 H wr (by have := HHK.out; omega) (Sl.of_own own2) (fun h hh => by
        refine ⟨Sl.of_own (hown h hh), ?_⟩
        have hm : h.f ∈ PS := by rw [← hmp]; exact List.mem_map_of_mem hh
        obtain ⟨j, hj, e⟩ := List.mem_iff_getElem.1 hm
        obtain ⟨p, q, xd, hX, _, _, hl⟩ := HPK.out j hj
        rw [← e, hX]
        simp only
        omega))
      rw [hmp, HJN.out, HHK.out] at HJ
      simp only at HJ
      rw [HBN.out] at HJ
      clear hmp
      go_wp2_with fail
      refine HJ.out.mono ?_
      rintro e v2 ⟨⟨A6, c6, rfl, own6⟩, hb2⟩
      have hBz2 := since_step hBz hb2
      have h6 := Sl.of_own own6
      have hsb := hsb.below hBz2
      clear own6 hb2
      go_wp2_with fail
      refine (HSM.out _ _ _ _ _ h6 hsb).mono ?_
      rintro e v3 ⟨rfl, n3, rfl⟩
      go_wp2_with fail
      refine (HLV.out _).mono ?_
      rintro e v4 ⟨rfl, hb4⟩
      have hBz4 := since_step (below_drewN hBz2 n3) hb4
      have hBf := since_step HB0.out hBz4
      go_wp2_with fail
      go_ret
      exact ⟨rfl, hBf⟩

set_option maxHeartbeats 16000000 in
set_option maxRecDepth 100000 in
theorem fback_ok_big_none (f : Fr) (A : Option Addr) (c : Nat) (a1 a2 a3 a5 : Int) (a4 : Option Addr) (l : List Nat) (c4 N : Nat) (w : World) (hfc : f.data.length ≤ c) (hcm : c ≤ maxLen) (hsf : Sl w A (by8 f.data)) (hof : Oct f.data)
    (hlc : l.length ≤ c4) (hlm : c4 ≤ maxLen) (hsl : Sl w a4 (by8 l)) (hol : Oct l) (hN : clampI a5 20390 20410 = (N : Int)) (hN0 : 20390 ≤ N) (hN1 : N ≤ 20410) (hok : f.cut.ok = true) (hsm : 20400 < N)
    (z : Int) (hz : z = 6 ∨ z = 2) (hA : cutF a1 a2 a3 (l.take 400) = ([], z)) :
    Calls Try.prog 5 #[f.val A c, .int .i64 a1, .int .i64 a2, .int .i64 a3, .slice a4 l.length c4, .int .i64 a5] w fun e w' => e = .returned (.bool true) ∧ Below w.heap.size w w' := by
  have HSH := Lib.hid (fun V => short7_any f A c V hfc hcm)
  have HCT := Lib.hid (fun V => cut_any a4 l.length c4 400 V (by unfold maxLen at hlm; omega) (by omega) hlc (by unfold maxLen at hlm; omega))
  obtain ⟨b, hb⟩ : ∃ b, l.take 400 = b := ⟨_, rfl⟩
  have hbl : min l.length 400 = b.length := by rw [← hb]; simp; omega
  have hb4 : b.length ≤ 400 := by rw [← hb]; simp; omega
  have hsb : Sl w a4 (by8 b) := by rw [← hb, by8_take]; exact hsl.take _
  have hob : Oct b := fun x hx => hol x (by rw [← hb] at hx; exact List.mem_of_mem_take hx)
  rw [hbl] at HCT
  rw [hb] at hA
  have hsg : Sl w A (by8 f.cut.data) := by unfold Fr.cut; simp only; rw [by8_take]; exact hsf.take _
  have hog : Oct f.cut.data := hof.take _
  have hgl : f.cut.data.length ≤ 90 := by simp [Fr.cut]; omega
  have HEN := Lib.hid (fun V h => fenc7_any f.cut A c V h hog)
  have HPL := Lib.hid (fun A c V => plain7_any f.cut A c V)
  have HXS := Lib.hid (fun A B c d V h1 h2 => rsame7_eq f.cut A B c d V (by omega) h1 h2)
  have HIN := Lib.hid (fun V => in_any a5 20390 20410 V)
  rw [hN] at HIN
  have HNC := Lib.hid (fun A V h => fcut7_any 1 0 1 A N (List.replicate N 0) V (by simp) (by unfold maxLen; omega) (by simp; omega) h Oct.rep)
  have HFC := Lib.hid (fun V h => fcut7_any a1 a2 a3 a4 c4 b V (by omega) hlm (by omega) h hob)
  rw [hA] at HFC
  have HLV := Lib.hid (fun V => lives7_any V)
  rw [show encF f.cut = (sealed f.cut.body, 0) from if_pos hok] at HEN
  have HDE := Lib.hid (fun A c V h1 h2 h3 => fdec7_enc f.cut A c V hok h1 h2 h3 hog)
  unfold DRes at HDE
  obtain ⟨EL, hEL⟩ : ∃ L, sealed f.cut.body = L := ⟨_, rfl⟩
  rw [hEL] at HEN HDE
  clear hEL
  rw [(cutF_noughts N).2 hsm hN1] at HNC
  have hs1 : ¬ (N : Int) ≤ 20400 := by omega
  have hs2 : (20400 : Int) < (N : Int) := by omega
  have hz0 : ¬ z = 0 := by rcases hz with rfl | rfl <;> decide
  have hz1 : (z != 0) = true := by simp [hz0]
  unfold ERes at HEN
  simp only at HEN
  generalize hgg : f.cut = g at *
  obtain ⟨g0, g1, g2, g3, g4, gd⟩ := g
  obtain ⟨f0, f1, f2, f3, f4, fd⟩ := f
  unfold Fr.val at *
  simp only at *
  clear hgg hfc hcm hof hlc hlm hsl hol hb hbl hb4 hob hog hgl hsf hA hok hN hsm hz
  have hsb := hsb.alloc (.cells #[.int .i64 f0, .int .i64 f1, .int .i64 f2, .int .i64 f3, .int .i64 f4, .slice A fd.length c] 24)
  have hsg := hsg.alloc (.cells #[.int .i64 f0, .int .i64 f1, .int .i64 f2, .int .i64 f3, .int .i64 f4, .slice A fd.length c] 24)
  have hB := since_alloc (Below.refl _ w) (.cells #[.int .i64 f0, .int .i64 f1, .int .i64 f2, .int .i64 f3, .int .i64 f4, .slice A fd.length c] 24)
  have hK := Bk.new w #[.int .i64 f0, .int .i64 f1, .int .i64 f2, .int .i64 f3, .int .i64 f4, .slice A fd.length c] 24
  obtain ⟨fn, hfn⟩ : ∃ n, fd.length = n := ⟨_, rfl⟩
  obtain ⟨gn, hgn⟩ : ∃ n, gd.length = n := ⟨_, rfl⟩
  obtain ⟨bn, hbn⟩ : ∃ n, b.length = n := ⟨_, rfl⟩
  obtain ⟨ln, hln⟩ : ∃ n, l.length = n := ⟨_, rfl⟩
  rw [hfn] at hsb hsg hB hK HSH ⊢
  rw [hgn] at HSH HEN HPL HXS HDE
  rw [hbn] at HCT HFC
  rw [hln] at HCT ⊢
  skip
  clear hfn hgn hbn hln
  simp only [List.length_replicate] at HNC
  go_enter Try.func5, Try.ntmps5
  go_upto_region 1 with fail
  generalize hWW : w.alloc (.cells #[.int .i64 f0, .int .i64 f1, .int .i64 f2, .int .i64 f3, .int .i64 f4, .slice A fn c] 24) = W at *
  clear hWW
  obtain ⟨hK_0, hK_1, hK_2, hK_3, hK_4, hK_5, hK_6⟩ := hK.six
  go_wp2_with fail
  refine (HSH.out _).mono ?_
  rintro e z1 ⟨rfl, hb⟩
  have hB := since_step hB hb
  have hK := hK.below hb
  have hsb := hsb.below hb
  have hsg := hsg.below hb
  clear hb
  clear hK_0 hK_1 hK_2 hK_3 hK_4 hK_5 hK_6
  clear hK
  go_wp2_with fail
  refine (HCT.out _).mono ?_
  rintro e y1 ⟨rfl, rfl⟩
  go_upto_region 2 with fail
  have hG := Bk.new z1 #[.int .i64 g0, .int .i64 g1, .int .i64 g2, .int .i64 g3, .int .i64 g4, .slice A gn c] 25
  have hA := (Below.refl z1.heap.size z1).alloc (Nat.le_refl _) (.cells #[.int .i64 g0, .int .i64 g1, .int .i64 g2, .int .i64 g3, .int .i64 g4, .slice A gn c] 25)
  have hsb := hsb.below hA
  have hsg := hsg.below hA
  have hB := since_step hB hA
  clear hA
  generalize hWW : z1.alloc (.cells #[.int .i64 g0, .int .i64 g1, .int .i64 g2, .int .i64 g3, .int .i64 g4, .slice A gn c] 25) = W2 at *
  clear hWW
  obtain ⟨hG_0, hG_1, hG_2, hG_3, hG_4, hG_5, hG_6⟩ := hG.six
  go_wp2_with fail
  refine (HEN.out _ hsg).mono ?_
  rintro e z2 ⟨⟨AE, cE, rfl, ownE⟩, hb⟩
  have hB := since_step hB hb
  have hsb := hsb.below hb
  have hsg := hsg.below hb
  have hG := hG.below hb
  clear hb
  clear hG_0 hG_1 hG_2 hG_3 hG_4 hG_5 hG_6
  have hlE := Lib.hid (own_le ownE)
  have hmE := Lib.hid (own_max ownE)
  have hE := Sl.of_own ownE
  clear ownE
  obtain ⟨hG_0, hG_1, hG_2, hG_3, hG_4, hG_5, hG_6⟩ := hG.six
  go_wp2_with fail
  refine (HDE.out _ _ _ hlE.out hmE.out hE).mono ?_
  rintro e z3 ⟨⟨AX, cX, rfl, ownX⟩, hb⟩
  have hB := since_step hB hb
  have hsb := hsb.below hb
  have hsg := hsg.below hb
  have hG := hG.below hb
  have hE := hE.below hb
  clear hb
  clear hG_0 hG_1 hG_2 hG_3 hG_4 hG_5 hG_6
  have hX := Sl.of_own ownX
  clear ownX
  clear hE
  obtain ⟨hG_0, hG_1, hG_2, hG_3, hG_4, hG_5, hG_6⟩ := hG.six
  simp only at hX ⊢
  skip
  go_upto_region 5 with fail
  have hXB := Bk.new z3 #[.int .i64 g0, .int .i64 g1, .int .i64 g2, .int .i64 g3, .int .i64 g4, .slice AX gn cX] 25
  have hA := (Below.refl z3.heap.size z3).alloc (Nat.le_refl _) (.cells #[.int .i64 g0, .int .i64 g1, .int .i64 g2, .int .i64 g3, .int .i64 g4, .slice AX gn cX] 25)
  have hsb := hsb.below hA
  have hsg := hsg.below hA
  have hG := hG.below hA
  have hX := hX.below hA
  have hB := since_step hB hA
  clear hA
  generalize hWW : z3.alloc (.cells #[.int .i64 g0, .int .i64 g1, .int .i64 g2, .int .i64 g3, .int .i64 g4, .slice AX gn cX] 25) = U at *
  clear hWW
  clear hG_0 hG_1 hG_2 hG_3 hG_4 hG_5 hG_6
  have hszU := hB.size
  have HX : Hid (∀ V, Below U.heap.size U V → Sl V AX (by8 gd)) := Lib.hid fun V h => hX.below h
  have HG : Hid (∀ V, Below U.heap.size U V → Sl V A (by8 gd)) := Lib.hid fun V h => hsg.below h
  have HSB : Hid (∀ V, Below U.heap.size U V → Sl V a4 (by8 b)) := Lib.hid fun V h => hsb.below h
  have HXB := Lib.hid (fun V (h : Below U.heap.size U V) => (hXB.below h).six)
  have HGB := Lib.hid (fun V (h : Below U.heap.size U V) => (hG.below h).six)
  clear hsg hX hsb hXB hG
  go_wp2_with fail
  refine wp_region_held_drew (S := (fun V => Below U.heap.size U V)) (by kernel_rfl) (by exact (Below.refl _ _).drew) (fun hHeld => ?_)
  refine wpAnyH_take (i := 0) (oi := { dst := some 43, op := _, type := _, pos := _, after := _, guard := _ }) (v := ?_) rfl (by kernel_rfl) (by kernel_rfl) (by kernel_rfl) (fun _ _ _ h => h) (Or.inl ⟨by rfl, ?_⟩) hHeld ?_
  rotate_left
  · (intro w hSw; obtain ⟨qx, qx0, qx1, qx2, qx3, qx4, qx5⟩ := HXB.out _ hSw; obtain ⟨qy, qy0, qy1, qy2, qy3, qy4, qy5⟩ := HGB.out _ hSw; go_simp <;> with_reducible rfl)
  try simp only [Act.put, List.setIfInBounds_toArray, List.set_cons_zero, List.set_cons_succ]
  refine wpAnyH_take (i := 1) (oi := { dst := some 44, op := _, type := _, pos := _, after := _, guard := _ }) (v := ?_) rfl (by kernel_rfl) (by kernel_rfl) (by kernel_rfl) (fun _ _ _ h => h) (Or.inl ⟨by rfl, ?_⟩) hHeld ?_
  rotate_left
  · (intro w hSw; obtain ⟨qx, qx0, qx1, qx2, qx3, qx4, qx5⟩ := HXB.out _ hSw; obtain ⟨qy, qy0, qy1, qy2, qy3, qy4, qy5⟩ := HGB.out _ hSw; go_simp <;> with_reducible rfl)
  try simp only [Act.put, List.setIfInBounds_toArray, List.set_cons_zero, List.set_cons_succ]
  refine wpAnyH_take (i := 2) (oi := { dst := some 45, op := _, type := _, pos := _, after := _, guard := _ }) (v := ?_) rfl (by kernel_rfl) (by kernel_rfl) (by kernel_rfl) (fun _ _ _ h => h) (Or.inl ⟨by rfl, ?_⟩) hHeld ?_
  rotate_left
  · (intro w hSw; obtain ⟨qx, qx0, qx1, qx2, qx3, qx4, qx5⟩ := HXB.out _ hSw; obtain ⟨qy, qy0, qy1, qy2, qy3, qy4, qy5⟩ := HGB.out _ hSw; go_simp <;> with_reducible rfl)
  try simp only [Act.put, List.setIfInBounds_toArray, List.set_cons_zero, List.set_cons_succ]
  refine wpAnyH_take (i := 3) (oi := { dst := some 46, op := _, type := _, pos := _, after := _, guard := _ }) (v := ?_) rfl (by kernel_rfl) (by kernel_rfl) (by kernel_rfl) (fun _ _ _ h => h) (Or.inl ⟨by rfl, ?_⟩) hHeld ?_
  rotate_left
  · (intro w hSw; obtain ⟨qx, qx0, qx1, qx2, qx3, qx4, qx5⟩ := HXB.out _ hSw; obtain ⟨qy, qy0, qy1, qy2, qy3, qy4, qy5⟩ := HGB.out _ hSw; go_simp <;> with_reducible rfl)
  try simp only [Act.put, List.setIfInBounds_toArray, List.set_cons_zero, List.set_cons_succ]
  refine wpAnyH_take (i := 5) (oi := { dst := some 48, op := _, type := _, pos := _, after := _, guard := _ }) (v := ?_) rfl (by kernel_rfl) (by kernel_rfl) (by kernel_rfl) (fun _ _ _ h => h) (Or.inl ⟨by rfl, ?_⟩) hHeld ?_
  rotate_left
  · (intro w hSw; obtain ⟨qx, qx0, qx1, qx2, qx3, qx4, qx5⟩ := HXB.out _ hSw; obtain ⟨qy, qy0, qy1, qy2, qy3, qy4, qy5⟩ := HGB.out _ hSw; go_simp <;> with_reducible rfl)
  try simp only [Act.put, List.setIfInBounds_toArray, List.set_cons_zero, List.set_cons_succ]
  refine wpAnyH_ready (rs := [4]) (by kernel_rfl) (by simp) ?_
  refine AllReadyH.cons (o := { dst := some 47, op := _, type := _, pos := _, after := _, guard := _ }) rfl (fun K hK => ?_) AllReadyH.nil
  go_simp
  refine (HPL.out _ _ _).mono ?_
  rintro e u4 ⟨rfl, hk4⟩
  have hKeep := since_step hHeld hk4
  go_wp2_with fail
  refine hK.out _ _ (by (try dsimp only); exact hKeep) (fun hHeld => ?_)
  clear hK K hKeep
  try simp only [Act.put, List.setIfInBounds_toArray, List.set_cons_zero, List.set_cons_succ]
  refine wpAnyH_ready (rs := [6]) (by kernel_rfl) (by simp) ?_
  refine AllReadyH.cons (o := { dst := some 49, op := _, type := _, pos := _, after := _, guard := _ }) rfl (fun K hK => ?_) AllReadyH.nil
  go_simp
  refine (HPL.out _ _ _).mono ?_
  rintro e u6 ⟨rfl, hk6⟩
  have hKeep := since_step hHeld hk6
  go_wp2_with fail
  refine hK.out _ _ (by (try dsimp only); exact hKeep) (fun hHeld => ?_)
  clear hK K hKeep
  try simp only [Act.put, List.setIfInBounds_toArray, List.set_cons_zero, List.set_cons_succ]
  refine wpAnyH_ready (rs := [7]) (by kernel_rfl) (by simp) ?_
  refine AllReadyH.cons (o := { dst := some 50, op := _, type := _, pos := _, after := _, guard := _ }) rfl (fun K hK => ?_) AllReadyH.nil
  go_simp
  refine (HXS.out _ _ _ _ _ (HX.out _ hHeld) (HG.out _ hHeld)).mono ?_
  rintro e u7 ⟨rfl, hk7⟩
  have hKeep := since_step hHeld hk7
  go_wp2_with fail
  refine hK.out _ _ (by (try dsimp only); exact hKeep) (fun hHeld => ?_)
  clear hK K hKeep
  try simp only [Act.put, List.setIfInBounds_toArray, List.set_cons_zero, List.set_cons_succ]
  refine wpAnyH_take (i := 8) (oi := { dst := some 51, op := _, type := _, pos := _, after := _, guard := _ }) (v := ?_) rfl (by kernel_rfl) (by kernel_rfl) (by kernel_rfl) (fun _ _ _ h => h) (Or.inl ⟨by rfl, ?_⟩) hHeld ?_
  rotate_left
  · (intro w hSw; obtain ⟨qx, qx0, qx1, qx2, qx3, qx4, qx5⟩ := HXB.out _ hSw; obtain ⟨qy, qy0, qy1, qy2, qy3, qy4, qy5⟩ := HGB.out _ hSw; go_simp <;> with_reducible rfl)
  try simp only [Act.put, List.setIfInBounds_toArray, List.set_cons_zero, List.set_cons_succ]
  refine wpAnyH_take (i := 9) (oi := { dst := some 52, op := _, type := _, pos := _, after := _, guard := _ }) (v := ?_) rfl (by kernel_rfl) (by kernel_rfl) (by kernel_rfl) (fun _ _ _ h => h) (Or.inl ⟨by rfl, ?_⟩) hHeld ?_
  rotate_left
  · (intro w hSw; obtain ⟨qx, qx0, qx1, qx2, qx3, qx4, qx5⟩ := HXB.out _ hSw; obtain ⟨qy, qy0, qy1, qy2, qy3, qy4, qy5⟩ := HGB.out _ hSw; go_simp <;> with_reducible rfl)
  try simp only [Act.put, List.setIfInBounds_toArray, List.set_cons_zero, List.set_cons_succ]
  refine wpAnyH_done (by kernel_rfl) ?_ _
  have hBf := hB.trans (hHeld.mono hszU)
  have hsb := HSB.out _ hHeld
  clear hB hszU HX HG HSB HXB HGB hHeld
  go_wp2_with fail
  refine (HIN.out _).mono ?_
  rintro e yy ⟨rfl, rfl⟩
  go_wp2_with (first
    | (at_make; refine wpList_zeros8 rfl (.tmp 56) (.tmp 56) rfl N rfl rfl rfl rfl (by omega) (Nat.le_refl _) ?_; intro w1 own1 hb1)
    | fail)
  have hBf := since_step hBf hb1
  have hsb := hsb.below hb1
  refine (HNC.out _ _ (Sl.of_own own1)).mono ?_
  rintro e w2 ⟨hC, hb2⟩
  have hBf := since_step hBf hb2
  have hsb := hsb.below hb2
  obtain ⟨AN, dN, rfl, _⟩ := hC.rows
  clear hC own1 hb1 hb2
  simp only [List.length_nil]
  go_wp2_with fail
  refine (HFC.out _ hsb).mono ?_
  rintro e w3 ⟨hC, hb3⟩
  have hBf := since_step hBf hb3
  have hsb := hsb.below hb3
  obtain ⟨AR, dR, rfl, rR⟩ := hC.rows
  clear hC hb3
  go_wp2_with fail
  refine (HLV.out _).mono ?_
  rintro e w4 ⟨rfl, hb4⟩
  have hBf := since_step hBf hb4
  go_wp2_with fail
  go_ret
  exact ⟨rfl, hBf⟩

set_option maxHeartbeats 16000000 in
set_option maxRecDepth 100000 in
theorem fback_no_small_cut (f : Fr) (A : Option Addr) (c : Nat) (a1 a2 a3 a5 : Int) (a4 : Option Addr) (l : List Nat) (c4 N : Nat) (w : World) (hfc : f.data.length ≤ c) (hcm : c ≤ maxLen) (hsf : Sl w A (by8 f.data)) (hof : Oct f.data)
    (hlc : l.length ≤ c4) (hlm : c4 ≤ maxLen) (hsl : Sl w a4 (by8 l)) (hol : Oct l) (hN : clampI a5 20390 20410 = (N : Int)) (hN0 : 20390 ≤ N) (hN1 : N ≤ 20410) (hok : f.cut.ok = false) (hsm : N ≤ 20400)
    (P : Nat) (hP : partsN (l.take 400).length = P) (hP2 : P ≤ 255) (hPok : (piece a1 a2 a3 (l.take 400) P 0).ok = true) (hA : cutF a1 a2 a3 (l.take 400) = ((piecesF a1 a2 a3 (l.take 400) P P).map (fun f => sealed f.body), 0)) :
    Calls Try.prog 5 #[f.val A c, .int .i64 a1, .int .i64 a2, .int .i64 a3, .slice a4 l.length c4, .int .i64 a5] w fun e w' => e = .returned (.bool true) ∧ Below w.heap.size w w' := by
  have HSH := Lib.hid (fun V => short7_any f A c V hfc hcm)
  have HCT := Lib.hid (fun V => cut_any a4 l.length c4 400 V (by unfold maxLen at hlm; omega) (by omega) hlc (by unfold maxLen at hlm; omega))
  obtain ⟨b, hb⟩ : ∃ b, l.take 400 = b := ⟨_, rfl⟩
  have hbl : min l.length 400 = b.length := by rw [← hb]; simp; omega
  have hb4 : b.length ≤ 400 := by rw [← hb]; simp; omega
  have hsb : Sl w a4 (by8 b) := by rw [← hb, by8_take]; exact hsl.take _
  have hob : Oct b := fun x hx => hol x (by rw [← hb] at hx; exact List.mem_of_mem_take hx)
  rw [hbl] at HCT
  rw [hb] at hP hPok hA
  have hsg : Sl w A (by8 f.cut.data) := by unfold Fr.cut; simp only; rw [by8_take]; exact hsf.take _
  have hog : Oct f.cut.data := hof.take _
  have hgl : f.cut.data.length ≤ 90 := by simp [Fr.cut]; omega
  have HEN := Lib.hid (fun V h => fenc7_any f.cut A c V h hog)
  have HPL := Lib.hid (fun A c V => plain7_any f.cut A c V)
  have HXS := Lib.hid (fun A B c d V h1 h2 => rsame7_eq f.cut A B c d V (by omega) h1 h2)
  have HIN := Lib.hid (fun V => in_any a5 20390 20410 V)
  rw [hN] at HIN
  have HNC := Lib.hid (fun A V h => fcut7_any 1 0 1 A N (List.replicate N 0) V (by simp) (by unfold maxLen; omega) (by simp; omega) h Oct.rep)
  have HFC := Lib.hid (fun V h => fcut7_any a1 a2 a3 a4 c4 b V (by omega) hlm (by omega) h hob)
  rw [hA] at HFC
  have HLV := Lib.hid (fun V => lives7_any V)
  rw [show encF f.cut = ([], 2) from if_neg (by rw [hok]; decide)] at HEN
  obtain ⟨R0, hR0⟩ := (cutF_noughts N).1 hsm
  rw [hR0] at HNC
  have hs1 : (N : Int) ≤ 20400 := by omega
  clear hR0
  have HJN := Lib.hid (join_pieces hP hP2 hPok)
  obtain ⟨PS, hPS⟩ : ∃ PS, piecesF a1 a2 a3 b P P = PS := ⟨_, rfl⟩
  have hPl : PS.length = P := by rw [← hPS, piecesF_len]
  have HPK : Hid (∀ k, (hk : k < PS.length) → ∃ p q xd, PS[k] = ⟨a1, a2, a3, p, q, xd⟩ ∧ PS[k].ok = true ∧ Oct xd ∧ xd.length ≤ 80) := Lib.hid fun k hk => by
    have hkP : k < P := by omega
    have e : PS[k] = piece a1 a2 a3 b P k := by subst hPS; simp [piecesF]
    rw [e]
    exact ⟨_, _, _, rfl, (piece_ok hkP hP2).trans hPok, seg_oct hob _ _, seg_le _ _ _⟩
  rw [hPS] at HFC HJN
  obtain ⟨R, hR⟩ : ∃ R, PS.map (fun f => sealed f.body) = R := ⟨_, rfl⟩
  have hRl : R.length = PS.length := by rw [← hR]; simp
  have hRl2 : R.length ≤ 255 := by omega
  have HRK : Hid (∀ k, (hk : k < R.length) → (hk2 : k < PS.length) → R[k] = sealed PS[k].body) := Lib.hid fun k hk hk2 => by subst hR; simp
  rw [hR] at HFC
  have HRL := Lib.hid hRl
  have HSM := Lib.hid (fun A A2 c c2 V h1 h2 => same_n A A2 c c2 b.length b.length b b V rfl rfl (by unfold maxLen; omega) (by unfold maxLen; omega) h1 h2)
  simp only [decide_true] at HSM
  have HBL := Lib.hid hb4
  clear hP hP2 hPok hPS hPl hR hRl
  unfold ERes at HEN
  simp only at HEN
  generalize hgg : f.cut = g at *
  obtain ⟨g0, g1, g2, g3, g4, gd⟩ := g
  obtain ⟨f0, f1, f2, f3, f4, fd⟩ := f
  unfold Fr.val at *
  simp only at *
  clear hgg hfc hcm hof hlc hlm hsl hol hb hbl hb4 hob hog hgl hsf hA hok hN hsm
  have hsb := hsb.alloc (.cells #[.int .i64 f0, .int .i64 f1, .int .i64 f2, .int .i64 f3, .int .i64 f4, .slice A fd.length c] 24)
  have hsg := hsg.alloc (.cells #[.int .i64 f0, .int .i64 f1, .int .i64 f2, .int .i64 f3, .int .i64 f4, .slice A fd.length c] 24)
  have hB := since_alloc (Below.refl _ w) (.cells #[.int .i64 f0, .int .i64 f1, .int .i64 f2, .int .i64 f3, .int .i64 f4, .slice A fd.length c] 24)
  have hK := Bk.new w #[.int .i64 f0, .int .i64 f1, .int .i64 f2, .int .i64 f3, .int .i64 f4, .slice A fd.length c] 24
  obtain ⟨fn, hfn⟩ : ∃ n, fd.length = n := ⟨_, rfl⟩
  obtain ⟨gn, hgn⟩ : ∃ n, gd.length = n := ⟨_, rfl⟩
  obtain ⟨bn, hbn⟩ : ∃ n, b.length = n := ⟨_, rfl⟩
  obtain ⟨ln, hln⟩ : ∃ n, l.length = n := ⟨_, rfl⟩
  rw [hfn] at hsb hsg hB hK HSH ⊢
  rw [hgn] at HSH HEN HPL HXS
  rw [hbn] at HCT HFC HSM HBL
  rw [hln] at HCT ⊢
  have HBN := Lib.hid hbn
  clear hfn hgn hbn hln
  simp only [List.length_replicate] at HNC
  go_enter Try.func5, Try.ntmps5
  go_upto_region 1 with fail
  generalize hWW : w.alloc (.cells #[.int .i64 f0, .int .i64 f1, .int .i64 f2, .int .i64 f3, .int .i64 f4, .slice A fn c] 24) = W at *
  clear hWW
  obtain ⟨hK_0, hK_1, hK_2, hK_3, hK_4, hK_5, hK_6⟩ := hK.six
  go_wp2_with fail
  refine (HSH.out _).mono ?_
  rintro e z1 ⟨rfl, hb⟩
  have hB := since_step hB hb
  have hK := hK.below hb
  have hsb := hsb.below hb
  have hsg := hsg.below hb
  clear hb
  clear hK_0 hK_1 hK_2 hK_3 hK_4 hK_5 hK_6
  clear hK
  go_wp2_with fail
  refine (HCT.out _).mono ?_
  rintro e y1 ⟨rfl, rfl⟩
  go_upto_region 2 with fail
  have hG := Bk.new z1 #[.int .i64 g0, .int .i64 g1, .int .i64 g2, .int .i64 g3, .int .i64 g4, .slice A gn c] 25
  have hA := (Below.refl z1.heap.size z1).alloc (Nat.le_refl _) (.cells #[.int .i64 g0, .int .i64 g1, .int .i64 g2, .int .i64 g3, .int .i64 g4, .slice A gn c] 25)
  have hsb := hsb.below hA
  have hsg := hsg.below hA
  have hB := since_step hB hA
  clear hA
  generalize hWW : z1.alloc (.cells #[.int .i64 g0, .int .i64 g1, .int .i64 g2, .int .i64 g3, .int .i64 g4, .slice A gn c] 25) = W2 at *
  clear hWW
  obtain ⟨hG_0, hG_1, hG_2, hG_3, hG_4, hG_5, hG_6⟩ := hG.six
  go_wp2_with fail
  refine (HEN.out _ hsg).mono ?_
  rintro e z2 ⟨⟨AE, cE, rfl, ownE⟩, hb⟩
  have hB := since_step hB hb
  have hsb := hsb.below hb
  have hsg := hsg.below hb
  have hG := hG.below hb
  clear hb
  clear hG_0 hG_1 hG_2 hG_3 hG_4 hG_5 hG_6
  clear ownE
  clear hG
  clear hsg
  go_wp2_with fail
  refine (HIN.out _).mono ?_
  rintro e yy ⟨rfl, rfl⟩
  go_wp2_with (first
    | (at_make; refine wpList_zeros8 rfl (.tmp 56) (.tmp 56) rfl N rfl rfl rfl rfl (by omega) (Nat.le_refl _) ?_; intro w1 own1 hb1)
    | fail)
  have hB := since_step hB hb1
  have hsb := hsb.below hb1
  refine (HNC.out _ _ (Sl.of_own own1)).mono ?_
  rintro e w2 ⟨hC, hb2⟩
  have hB := since_step hB hb2
  have hsb := hsb.below hb2
  obtain ⟨AN, dN, rfl, _⟩ := hC.rows
  clear hC own1 hb1 hb2
  simp only [List.length_nil]
  go_wp2_with fail
  refine (HFC.out _ hsb).mono ?_
  rintro e w3 ⟨hC, hb3⟩
  have hB := since_step hB hb3
  have hsb := hsb.below hb3
  obtain ⟨AR, dR, rfl, rR⟩ := hC.rows
  clear hC hb3
  go_wp2_with fail
  have hW0 : w.heap.size ≤ w3.heap.size := hB.size
  have HB0 := Lib.hid hB
  go_loopw [21, 22] (fun av iv wr => ∃ (k : Nat) (A2 : Option Addr) (c2 : Nat) (H : List Fh), k ≤ R.length ∧ av = .slice A2 H.length c2 ∧ iv = .int .i64 k ∧ wr.ownsRow w3.heap.size 25 6 (.slice A2 H.length c2) H.length (rc Fh.cells H) ∧ H.map Fh.f = PS.take k ∧ OwnF w3.heap.size wr H ∧ Below w3.heap.size w3 wr) (fun _ iv _ => R.length - (intOf iv).toNat)
  case atStart => exact ⟨0, _, _, [], Nat.zero_le _, rfl, rfl, own_nil _ _ _, rfl, (fun s hs => by cases hs), Below.refl _ _⟩
  case round =>
    obtain ⟨k, A2, c2, H, hk, rfl, rfl, own2, hmap, hown, hBz⟩ := hrel
    have HMAP := Lib.hid hmap
    have hHk : H.length = k := by have := congrArg List.length hmap; rw [List.length_map, List.length_take] at this; have := HRL.out; omega
    clear hmap
    rw [hHk] at own2 ⊢
    have HHK := Lib.hid hHk
    clear hHk
    by_cases hlt : k < R.length
    · have hlk : (k : Int) < (R.length : Int) := by omega
      have hgk : (0 : Int) ≤ (k : Int) := by omega
      have hks : IntKind.i64.wrap ((k : Int) + 1) = (k : Int) + 1 := IntWalk.i64_in _ (by omega)
      have hlt2 : k < PS.length := by have := HRL.out; omega
      obtain ⟨b1, o1, P1, e1, rfl, hb1, q1, s1, l1, m1⟩ := (rR.below hBz).at_ hlt
      have hRK := HRK.out k hlt hlt2
      obtain ⟨p, q, xd, hX, hXok, hXo, hXl⟩ := HPK.out k hlt2
      rw [hX] at hRK hXok
      rw [hRK] at q1 s1 l1
      have HTK : Hid (PS.take (k + 1) = PS.take k ++ [⟨a1, a2, a3, p, q, xd⟩]) := Lib.hid (by rw [List.take_succ_eq_append_getElem hlt2, hX])
      have HDX := Lib.hid (fun V h => fdec7_enc ⟨a1, a2, a3, p, q, xd⟩ P1 e1 V hXok l1 m1 h hXo)
      obtain ⟨Q, hQ⟩ : ∃ Q, sealed (Fr.body ⟨a1, a2, a3, p, q, xd⟩) = Q := ⟨_, rfl⟩
      rw [hQ] at HDX q1 s1
      obtain ⟨qn, hqn⟩ : ∃ n, Q.length = n := ⟨_, rfl⟩
      rw [hqn] at HDX q1
      unfold DRes Fr.val at HDX
      simp only at HDX
      have HXL := Lib.hid hXl
      clear hRK hX hXok hXo hXl l1 m1 hQ hqn hlt2
      go_wp2_with fail
      refine (HDX.out _ s1).mono ?_
      rintro e v2 ⟨⟨A5, c5, rfl, own5⟩, hb2⟩
      have hBz2 := since_step hBz hb2
      have own2 := own_below own2 hb2
      have hown := hown.below hb2
      have own5 := own_base own5 hBz.size
      have hsz2 := hBz2.size
      clear q1 s1 hb1 hb2 HDX
      obtain ⟨xn, hxn⟩ : ∃ n, xd.length = n := ⟨_, rfl⟩
      have HXN := Lib.hid hxn
      rw [hxn] at own5 ⊢
      clear hxn
      go_wp2_with (first
        | (at_builtin; refine wpList_app rfl (.tmp 124) (.tmp 126) rfl EFR rfl rfl ((own2.alloc _).alloc _) (m := 1) (news := [.int .i64 a1, .int .i64 a2, .int .i64 a3, .int .i64 p, .int .i64 q, .slice A5 xn c5]) rfl (Sl.new1 _ _ _ _) (fun u hu => by
            simp only [List.mem_cons, List.not_mem_nil, or_false] at hu
            rcases hu with h | h | h | h | h | h <;> subst h <;> rfl) (by unfold maxLen; omega) (by omega) (by rw [World.size_alloc, World.size_alloc]; omega) ?_; intro A6 c6 x6 own6 hg6 hb6)
        | fail)
      have hown6 : OwnF w3.heap.size x6 (H ++ [⟨⟨a1, a2, a3, p, q, xd⟩, A5, c5⟩]) := (fun s hs => by
        rcases List.mem_append.1 hs with hs | hs
        · exact own_keptF (((hown s hs).alloc _).alloc _) ((own2.alloc _).alloc _) hg6
        · obtain rfl : s = ⟨⟨a1, a2, a3, p, q, xd⟩, A5, c5⟩ := by simpa using hs
          simp only
          rw [HXN.out]
          exact own_keptF ((own5.alloc _).alloc _) ((own2.alloc _).alloc _) hg6)
      have hB6 := (since_alloc (since_alloc hBz2 (.cells #[.int .i64 a1, .int .i64 a2, .int .i64 a3, .int .i64 p, .int .i64 q, .slice A5 xn c5] 25)) (.cells #[.int .i64 a1, .int .i64 a2, .int .i64 a3, .int .i64 p, .int .i64 q, .slice A5 xn c5] 25)).trans hb6
      go_roundw
      case rel =>
        refine ⟨k + 1, A6, c6, H ++ [⟨⟨a1, a2, a3, p, q, xd⟩, A5, c5⟩], by omega, by rw [List.length_append, HHK.out]; rfl, by go_num, ?_, by rw [List.map_append, HMAP.out, HTK.out]; rfl, hown6, hB6⟩
        rw [rc_append, List.length_append, HHK.out]
        simp only [rc, List.map_cons, List.map_nil, List.flatten_cons, List.flatten_nil, Fh.cells, List.append_nil, List.length_cons, List.length_nil]
        rw [HXN.out]
        exact own6
      case measure => simp [intOf]; omega
    · obtain rfl : k = R.length := by omega
      have hmp : H.map Fh.f = PS := by rw [HMAP.out, List.take_of_length_le (by have := HRL.out; omega)]
      have HJ := Lib.hid (fjoin7_any A2 c2 H wr (by have := HHK.out; omega) (Sl.of_own own2) (fun h hh => by
        refine ⟨Sl.of_own (hown h hh), ?_⟩
        have hm : h.f ∈ PS := by rw [← hmp]; exact List.mem_map_of_mem hh
        obtain ⟨j, hj, e⟩ := List.mem_iff_getElem.1 hm
        obtain ⟨p, q, xd, hX, _, _, hl⟩ := HPK.out j hj
        rw [← e, hX]
        simp only
        omega))
      rw [hmp, HJN.out, HHK.out] at HJ
      simp only at HJ
      rw [HBN.out] at HJ
      clear hmp
      go_wp2_with fail
      refine HJ.out.mono ?_
      rintro e v2 ⟨⟨A6, c6, rfl, own6⟩, hb2⟩
      have hBz2 := since_step hBz hb2
      have h6 := Sl.of_own own6
      have hsb := hsb.below hBz2
      clear own6 hb2
      go_wp2_with fail
      refine (HSM.out _ _ _ _ _ h6 hsb).mono ?_
      rintro e v3 ⟨rfl, n3, rfl⟩
      go_wp2_with fail
      refine (HLV.out _).mono ?_
      rintro e v4 ⟨rfl, hb4⟩
      have hBz4 := since_step (below_drewN hBz2 n3) hb4
      have hBf := since_step HB0.out hBz4
      go_wp2_with fail
      go_ret
      exact ⟨rfl, hBf⟩

set_option maxHeartbeats 16000000 in
set_option maxRecDepth 100000 in
theorem fback_no_small_none (f : Fr) (A : Option Addr) (c : Nat) (a1 a2 a3 a5 : Int) (a4 : Option Addr) (l : List Nat) (c4 N : Nat) (w : World) (hfc : f.data.length ≤ c) (hcm : c ≤ maxLen) (hsf : Sl w A (by8 f.data)) (hof : Oct f.data)
    (hlc : l.length ≤ c4) (hlm : c4 ≤ maxLen) (hsl : Sl w a4 (by8 l)) (hol : Oct l) (hN : clampI a5 20390 20410 = (N : Int)) (hN0 : 20390 ≤ N) (hN1 : N ≤ 20410) (hok : f.cut.ok = false) (hsm : N ≤ 20400)
    (z : Int) (hz : z = 6 ∨ z = 2) (hA : cutF a1 a2 a3 (l.take 400) = ([], z)) :
    Calls Try.prog 5 #[f.val A c, .int .i64 a1, .int .i64 a2, .int .i64 a3, .slice a4 l.length c4, .int .i64 a5] w fun e w' => e = .returned (.bool true) ∧ Below w.heap.size w w' := by
  have HSH := Lib.hid (fun V => short7_any f A c V hfc hcm)
  have HCT := Lib.hid (fun V => cut_any a4 l.length c4 400 V (by unfold maxLen at hlm; omega) (by omega) hlc (by unfold maxLen at hlm; omega))
  obtain ⟨b, hb⟩ : ∃ b, l.take 400 = b := ⟨_, rfl⟩
  have hbl : min l.length 400 = b.length := by rw [← hb]; simp; omega
  have hb4 : b.length ≤ 400 := by rw [← hb]; simp; omega
  have hsb : Sl w a4 (by8 b) := by rw [← hb, by8_take]; exact hsl.take _
  have hob : Oct b := fun x hx => hol x (by rw [← hb] at hx; exact List.mem_of_mem_take hx)
  rw [hbl] at HCT
  rw [hb] at hA
  have hsg : Sl w A (by8 f.cut.data) := by unfold Fr.cut; simp only; rw [by8_take]; exact hsf.take _
  have hog : Oct f.cut.data := hof.take _
  have hgl : f.cut.data.length ≤ 90 := by simp [Fr.cut]; omega
  have HEN := Lib.hid (fun V h => fenc7_any f.cut A c V h hog)
  have HPL := Lib.hid (fun A c V => plain7_any f.cut A c V)
  have HXS := Lib.hid (fun A B c d V h1 h2 => rsame7_eq f.cut A B c d V (by omega) h1 h2)
  have HIN := Lib.hid (fun V => in_any a5 20390 20410 V)
  rw [hN] at HIN
  have HNC := Lib.hid (fun A V h => fcut7_any 1 0 1 A N (List.replicate N 0) V (by simp) (by unfold maxLen; omega) (by simp; omega) h Oct.rep)
  have HFC := Lib.hid (fun V h => fcut7_any a1 a2 a3 a4 c4 b V (by omega) hlm (by omega) h hob)
  rw [hA] at HFC
  have HLV := Lib.hid (fun V => lives7_any V)
  rw [show encF f.cut = ([], 2) from if_neg (by rw [hok]; decide)] at HEN
  obtain ⟨R0, hR0⟩ := (cutF_noughts N).1 hsm
  rw [hR0] at HNC
  have hs1 : (N : Int) ≤ 20400 := by omega
  clear hR0
  have hz0 : ¬ z = 0 := by rcases hz with rfl | rfl <;> decide
  have hz1 : (z != 0) = true := by simp [hz0]
  unfold ERes at HEN
  simp only at HEN
  generalize hgg : f.cut = g at *
  obtain ⟨g0, g1, g2, g3, g4, gd⟩ := g
  obtain ⟨f0, f1, f2, f3, f4, fd⟩ := f
  unfold Fr.val at *
  simp only at *
  clear hgg hfc hcm hof hlc hlm hsl hol hb hbl hb4 hob hog hgl hsf hA hok hN hsm hz
  have hsb := hsb.alloc (.cells #[.int .i64 f0, .int .i64 f1, .int .i64 f2, .int .i64 f3, .int .i64 f4, .slice A fd.length c] 24)
  have hsg := hsg.alloc (.cells #[.int .i64 f0, .int .i64 f1, .int .i64 f2, .int .i64 f3, .int .i64 f4, .slice A fd.length c] 24)
  have hB := since_alloc (Below.refl _ w) (.cells #[.int .i64 f0, .int .i64 f1, .int .i64 f2, .int .i64 f3, .int .i64 f4, .slice A fd.length c] 24)
  have hK := Bk.new w #[.int .i64 f0, .int .i64 f1, .int .i64 f2, .int .i64 f3, .int .i64 f4, .slice A fd.length c] 24
  obtain ⟨fn, hfn⟩ : ∃ n, fd.length = n := ⟨_, rfl⟩
  obtain ⟨gn, hgn⟩ : ∃ n, gd.length = n := ⟨_, rfl⟩
  obtain ⟨bn, hbn⟩ : ∃ n, b.length = n := ⟨_, rfl⟩
  obtain ⟨ln, hln⟩ : ∃ n, l.length = n := ⟨_, rfl⟩
  rw [hfn] at hsb hsg hB hK HSH ⊢
  rw [hgn] at HSH HEN HPL HXS
  rw [hbn] at HCT HFC
  rw [hln] at HCT ⊢
  skip
  clear hfn hgn hbn hln
  simp only [List.length_replicate] at HNC
  go_enter Try.func5, Try.ntmps5
  go_upto_region 1 with fail
  generalize hWW : w.alloc (.cells #[.int .i64 f0, .int .i64 f1, .int .i64 f2, .int .i64 f3, .int .i64 f4, .slice A fn c] 24) = W at *
  clear hWW
  obtain ⟨hK_0, hK_1, hK_2, hK_3, hK_4, hK_5, hK_6⟩ := hK.six
  go_wp2_with fail
  refine (HSH.out _).mono ?_
  rintro e z1 ⟨rfl, hb⟩
  have hB := since_step hB hb
  have hK := hK.below hb
  have hsb := hsb.below hb
  have hsg := hsg.below hb
  clear hb
  clear hK_0 hK_1 hK_2 hK_3 hK_4 hK_5 hK_6
  clear hK
  go_wp2_with fail
  refine (HCT.out _).mono ?_
  rintro e y1 ⟨rfl, rfl⟩
  go_upto_region 2 with fail
  have hG := Bk.new z1 #[.int .i64 g0, .int .i64 g1, .int .i64 g2, .int .i64 g3, .int .i64 g4, .slice A gn c] 25
  have hA := (Below.refl z1.heap.size z1).alloc (Nat.le_refl _) (.cells #[.int .i64 g0, .int .i64 g1, .int .i64 g2, .int .i64 g3, .int .i64 g4, .slice A gn c] 25)
  have hsb := hsb.below hA
  have hsg := hsg.below hA
  have hB := since_step hB hA
  clear hA
  generalize hWW : z1.alloc (.cells #[.int .i64 g0, .int .i64 g1, .int .i64 g2, .int .i64 g3, .int .i64 g4, .slice A gn c] 25) = W2 at *
  clear hWW
  obtain ⟨hG_0, hG_1, hG_2, hG_3, hG_4, hG_5, hG_6⟩ := hG.six
  go_wp2_with fail
  refine (HEN.out _ hsg).mono ?_
  rintro e z2 ⟨⟨AE, cE, rfl, ownE⟩, hb⟩
  have hB := since_step hB hb
  have hsb := hsb.below hb
  have hsg := hsg.below hb
  have hG := hG.below hb
  clear hb
  clear hG_0 hG_1 hG_2 hG_3 hG_4 hG_5 hG_6
  clear ownE
  clear hG
  clear hsg
  go_wp2_with fail
  refine (HIN.out _).mono ?_
  rintro e yy ⟨rfl, rfl⟩
  go_wp2_with (first
    | (at_make; refine wpList_zeros8 rfl (.tmp 56) (.tmp 56) rfl N rfl rfl rfl rfl (by omega) (Nat.le_refl _) ?_; intro w1 own1 hb1)
    | fail)
  have hB := since_step hB hb1
  have hsb := hsb.below hb1
  refine (HNC.out _ _ (Sl.of_own own1)).mono ?_
  rintro e w2 ⟨hC, hb2⟩
  have hB := since_step hB hb2
  have hsb := hsb.below hb2
  obtain ⟨AN, dN, rfl, _⟩ := hC.rows
  clear hC own1 hb1 hb2
  simp only [List.length_nil]
  go_wp2_with fail
  refine (HFC.out _ hsb).mono ?_
  rintro e w3 ⟨hC, hb3⟩
  have hB := since_step hB hb3
  have hsb := hsb.below hb3
  obtain ⟨AR, dR, rfl, rR⟩ := hC.rows
  clear hC hb3
  go_wp2_with fail
  refine (HLV.out _).mono ?_
  rintro e w4 ⟨rfl, hb4⟩
  have hB := since_step hB hb4
  go_wp2_with fail
  go_ret
  exact ⟨rfl, hB⟩

set_option maxHeartbeats 16000000 in
set_option maxRecDepth 100000 in
theorem fback_no_big_cut (f : Fr) (A : Option Addr) (c : Nat) (a1 a2 a3 a5 : Int) (a4 : Option Addr) (l : List Nat) (c4 N : Nat) (w : World) (hfc : f.data.length ≤ c) (hcm : c ≤ maxLen) (hsf : Sl w A (by8 f.data)) (hof : Oct f.data)
    (hlc : l.length ≤ c4) (hlm : c4 ≤ maxLen) (hsl : Sl w a4 (by8 l)) (hol : Oct l) (hN : clampI a5 20390 20410 = (N : Int)) (hN0 : 20390 ≤ N) (hN1 : N ≤ 20410) (hok : f.cut.ok = false) (hsm : 20400 < N)
    (P : Nat) (hP : partsN (l.take 400).length = P) (hP2 : P ≤ 255) (hPok : (piece a1 a2 a3 (l.take 400) P 0).ok = true) (hA : cutF a1 a2 a3 (l.take 400) = ((piecesF a1 a2 a3 (l.take 400) P P).map (fun f => sealed f.body), 0)) :
    Calls Try.prog 5 #[f.val A c, .int .i64 a1, .int .i64 a2, .int .i64 a3, .slice a4 l.length c4, .int .i64 a5] w fun e w' => e = .returned (.bool true) ∧ Below w.heap.size w w' := by
  have HSH := Lib.hid (fun V => short7_any f A c V hfc hcm)
  have HCT := Lib.hid (fun V => cut_any a4 l.length c4 400 V (by unfold maxLen at hlm; omega) (by omega) hlc (by unfold maxLen at hlm; omega))
  obtain ⟨b, hb⟩ : ∃ b, l.take 400 = b := ⟨_, rfl⟩
  have hbl : min l.length 400 = b.length := by rw [← hb]; simp; omega
  have hb4 : b.length ≤ 400 := by rw [← hb]; simp; omega
  have hsb : Sl w a4 (by8 b) := by rw [← hb, by8_take]; exact hsl.take _
  have hob : Oct b := fun x hx => hol x (by rw [← hb] at hx; exact List.mem_of_mem_take hx)
  rw [hbl] at HCT
  rw [hb] at hP hPok hA
  have hsg : Sl w A (by8 f.cut.data) := by unfold Fr.cut; simp only; rw [by8_take]; exact hsf.take _
  have hog : Oct f.cut.data := hof.take _
  have hgl : f.cut.data.length ≤ 90 := by simp [Fr.cut]; omega
  have HEN := Lib.hid (fun V h => fenc7_any f.cut A c V h hog)
  have HPL := Lib.hid (fun A c V => plain7_any f.cut A c V)
  have HXS := Lib.hid (fun A B c d V h1 h2 => rsame7_eq f.cut A B c d V (by omega) h1 h2)
  have HIN := Lib.hid (fun V => in_any a5 20390 20410 V)
  rw [hN] at HIN
  have HNC := Lib.hid (fun A V h => fcut7_any 1 0 1 A N (List.replicate N 0) V (by simp) (by unfold maxLen; omega) (by simp; omega) h Oct.rep)
  have HFC := Lib.hid (fun V h => fcut7_any a1 a2 a3 a4 c4 b V (by omega) hlm (by omega) h hob)
  rw [hA] at HFC
  have HLV := Lib.hid (fun V => lives7_any V)
  rw [show encF f.cut = ([], 2) from if_neg (by rw [hok]; decide)] at HEN
  rw [(cutF_noughts N).2 hsm hN1] at HNC
  have hs1 : ¬ (N : Int) ≤ 20400 := by omega
  have hs2 : (20400 : Int) < (N : Int) := by omega
  have HJN := Lib.hid (join_pieces hP hP2 hPok)
  obtain ⟨PS, hPS⟩ : ∃ PS, piecesF a1 a2 a3 b P P = PS := ⟨_, rfl⟩
  have hPl : PS.length = P := by rw [← hPS, piecesF_len]
  have HPK : Hid (∀ k, (hk : k < PS.length) → ∃ p q xd, PS[k] = ⟨a1, a2, a3, p, q, xd⟩ ∧ PS[k].ok = true ∧ Oct xd ∧ xd.length ≤ 80) := Lib.hid fun k hk => by
    have hkP : k < P := by omega
    have e : PS[k] = piece a1 a2 a3 b P k := by subst hPS; simp [piecesF]
    rw [e]
    exact ⟨_, _, _, rfl, (piece_ok hkP hP2).trans hPok, seg_oct hob _ _, seg_le _ _ _⟩
  rw [hPS] at HFC HJN
  obtain ⟨R, hR⟩ : ∃ R, PS.map (fun f => sealed f.body) = R := ⟨_, rfl⟩
  have hRl : R.length = PS.length := by rw [← hR]; simp
  have hRl2 : R.length ≤ 255 := by omega
  have HRK : Hid (∀ k, (hk : k < R.length) → (hk2 : k < PS.length) → R[k] = sealed PS[k].body) := Lib.hid fun k hk hk2 => by subst hR; simp
  rw [hR] at HFC
  have HRL := Lib.hid hRl
  have HSM := Lib.hid (fun A A2 c c2 V h1 h2 => same_n A A2 c c2 b.length b.length b b V rfl rfl (by unfold maxLen; omega) (by unfold maxLen; omega) h1 h2)
  simp only [decide_true] at HSM
  have HBL := Lib.hid hb4
  clear hP hP2 hPok hPS hPl hR hRl
  unfold ERes at HEN
  simp only at HEN
  generalize hgg : f.cut = g at *
  obtain ⟨g0, g1, g2, g3, g4, gd⟩ := g
  obtain ⟨f0, f1, f2, f3, f4, fd⟩ := f
  unfold Fr.val at *
  simp only at *
  clear hgg hfc hcm hof hlc hlm hsl hol hb hbl hb4 hob hog hgl hsf hA hok hN hsm
  have hsb := hsb.alloc (.cells #[.int .i64 f0, .int .i64 f1, .int .i64 f2, .int .i64 f3, .int .i64 f4, .slice A fd.length c] 24)
  have hsg := hsg.alloc (.cells #[.int .i64 f0, .int .i64 f1, .int .i64 f2, .int .i64 f3, .int .i64 f4, .slice A fd.length c] 24)
  have hB := since_alloc (Below.refl _ w) (.cells #[.int .i64 f0, .int .i64 f1, .int .i64 f2, .int .i64 f3, .int .i64 f4, .slice A fd.length c] 24)
  have hK := Bk.new w #[.int .i64 f0, .int .i64 f1, .int .i64 f2, .int .i64 f3, .int .i64 f4, .slice A fd.length c] 24
  obtain ⟨fn, hfn⟩ : ∃ n, fd.length = n := ⟨_, rfl⟩
  obtain ⟨gn, hgn⟩ : ∃ n, gd.length = n := ⟨_, rfl⟩
  obtain ⟨bn, hbn⟩ : ∃ n, b.length = n := ⟨_, rfl⟩
  obtain ⟨ln, hln⟩ : ∃ n, l.length = n := ⟨_, rfl⟩
  rw [hfn] at hsb hsg hB hK HSH ⊢
  rw [hgn] at HSH HEN HPL HXS
  rw [hbn] at HCT HFC HSM HBL
  rw [hln] at HCT ⊢
  have HBN := Lib.hid hbn
  clear hfn hgn hbn hln
  simp only [List.length_replicate] at HNC
  go_enter Try.func5, Try.ntmps5
  go_upto_region 1 with fail
  generalize hWW : w.alloc (.cells #[.int .i64 f0, .int .i64 f1, .int .i64 f2, .int .i64 f3, .int .i64 f4, .slice A fn c] 24) = W at *
  clear hWW
  obtain ⟨hK_0, hK_1, hK_2, hK_3, hK_4, hK_5, hK_6⟩ := hK.six
  go_wp2_with fail
  refine (HSH.out _).mono ?_
  rintro e z1 ⟨rfl, hb⟩
  have hB := since_step hB hb
  have hK := hK.below hb
  have hsb := hsb.below hb
  have hsg := hsg.below hb
  clear hb
  clear hK_0 hK_1 hK_2 hK_3 hK_4 hK_5 hK_6
  clear hK
  go_wp2_with fail
  refine (HCT.out _).mono ?_
  rintro e y1 ⟨rfl, rfl⟩
  go_upto_region 2 with fail
  have hG := Bk.new z1 #[.int .i64 g0, .int .i64 g1, .int .i64 g2, .int .i64 g3, .int .i64 g4, .slice A gn c] 25
  have hA := (Below.refl z1.heap.size z1).alloc (Nat.le_refl _) (.cells #[.int .i64 g0, .int .i64 g1, .int .i64 g2, .int .i64 g3, .int .i64 g4, .slice A gn c] 25)
  have hsb := hsb.below hA
  have hsg := hsg.below hA
  have hB := since_step hB hA
  clear hA
  generalize hWW : z1.alloc (.cells #[.int .i64 g0, .int .i64 g1, .int .i64 g2, .int .i64 g3, .int .i64 g4, .slice A gn c] 25) = W2 at *
  clear hWW
  obtain ⟨hG_0, hG_1, hG_2, hG_3, hG_4, hG_5, hG_6⟩ := hG.six
  go_wp2_with fail
  refine (HEN.out _ hsg).mono ?_
  rintro e z2 ⟨⟨AE, cE, rfl, ownE⟩, hb⟩
  have hB := since_step hB hb
  have hsb := hsb.below hb
  have hsg := hsg.below hb
  have hG := hG.below hb
  clear hb
  clear hG_0 hG_1 hG_2 hG_3 hG_4 hG_5 hG_6
  clear ownE
  clear hG
  clear hsg
  go_wp2_with fail
  refine (HIN.out _).mono ?_
  rintro e yy ⟨rfl, rfl⟩
  go_wp2_with (first
    | (at_make; refine wpList_zeros8 rfl (.tmp 56) (.tmp 56) rfl N rfl rfl rfl rfl (by omega) (Nat.le_refl _) ?_; intro w1 own1 hb1)
    | fail)
  have hB := since_step hB hb1
  have hsb := hsb.below hb1
  refine (HNC.out _ _ (Sl.of_own own1)).mono ?_
  rintro e w2 ⟨hC, hb2⟩
  have hB := since_step hB hb2
  have hsb := hsb.below hb2
  obtain ⟨AN, dN, rfl, _⟩ := hC.rows
  clear hC own1 hb1 hb2
  simp only [List.length_nil]
  go_wp2_with fail
  refine (HFC.out _ hsb).mono ?_
  rintro e w3 ⟨hC, hb3⟩
  have hB := since_step hB hb3
  have hsb := hsb.below hb3
  obtain ⟨AR, dR, rfl, rR⟩ := hC.rows
  clear hC hb3
  go_wp2_with fail
  have hW0 : w.heap.size ≤ w3.heap.size := hB.size
  have HB0 := Lib.hid hB
  go_loopw [21, 22] (fun av iv wr => ∃ (k : Nat) (A2 : Option Addr) (c2 : Nat) (H : List Fh), k ≤ R.length ∧ av = .slice A2 H.length c2 ∧ iv = .int .i64 k ∧ wr.ownsRow w3.heap.size 25 6 (.slice A2 H.length c2) H.length (rc Fh.cells H) ∧ H.map Fh.f = PS.take k ∧ OwnF w3.heap.size wr H ∧ Below w3.heap.size w3 wr) (fun _ iv _ => R.length - (intOf iv).toNat)
  case atStart => exact ⟨0, _, _, [], Nat.zero_le _, rfl, rfl, own_nil _ _ _, rfl, (fun s hs => by cases hs), Below.refl _ _⟩
  case round =>
    obtain ⟨k, A2, c2, H, hk, rfl, rfl, own2, hmap, hown, hBz⟩ := hrel
    have HMAP := Lib.hid hmap
    have hHk : H.length = k := by have := congrArg List.length hmap; rw [List.length_map, List.length_take] at this; have := HRL.out; omega
    clear hmap
    rw [hHk] at own2 ⊢
    have HHK := Lib.hid hHk
    clear hHk
    by_cases hlt : k < R.length
    · have hlk : (k : Int) < (R.length : Int) := by omega
      have hgk : (0 : Int) ≤ (k : Int) := by omega
      have hks : IntKind.i64.wrap ((k : Int) + 1) = (k : Int) + 1 := IntWalk.i64_in _ (by omega)
      have hlt2 : k < PS.length := by have := HRL.out; omega
      obtain ⟨b1, o1, P1, e1, rfl, hb1, q1, s1, l1, m1⟩ := (rR.below hBz).at_ hlt
      have hRK := HRK.out k hlt hlt2
      obtain ⟨p, q, xd, hX, hXok, hXo, hXl⟩ := HPK.out k hlt2
      rw [hX] at hRK hXok
      rw [hRK] at q1 s1 l1
      have HTK : Hid (PS.take (k + 1) = PS.take k ++ [⟨a1, a2, a3, p, q, xd⟩]) := Lib.hid (by rw [List.take_succ_eq_append_getElem hlt2, hX])
      have HDX := Lib.hid (fun V h => fdec7_enc ⟨a1, a2, a3, p, q, xd⟩ P1 e1 V hXok l1 m1 h hXo)
      obtain ⟨Q, hQ⟩ : ∃ Q, sealed (Fr.body ⟨a1, a2, a3, p, q, xd⟩) = Q := ⟨_, rfl⟩
      rw [hQ] at HDX q1 s1
      obtain ⟨qn, hqn⟩ : ∃ n, Q.length = n := ⟨_, rfl⟩
      rw [hqn] at HDX q1
      unfold DRes Fr.val at HDX
      simp only at HDX
      have HXL := Lib.hid hXl
      clear hRK hX hXok hXo hXl l1 m1 hQ hqn hlt2
      go_wp2_with fail
      refine (HDX.out _ s1).mono ?_
      rintro e v2 ⟨⟨A5, c5, rfl, own5⟩, hb2⟩
      have hBz2 := since_step hBz hb2
      have own2 := own_below own2 hb2
      have hown := hown.below hb2
      have own5 := own_base own5 hBz.size
      have hsz2 := hBz2.size
      clear q1 s1 hb1 hb2 HDX
      obtain ⟨xn, hxn⟩ : ∃ n, xd.length = n := ⟨_, rfl⟩
      have HXN := Lib.hid hxn
      rw [hxn] at own5 ⊢
      clear hxn
      go_wp2_with (first
        | (at_builtin; refine wpList_app rfl (.tmp 124) (.tmp 126) rfl EFR rfl rfl ((own2.alloc _).alloc _) (m := 1) (news := [.int .i64 a1, .int .i64 a2, .int .i64 a3, .int .i64 p, .int .i64 q, .slice A5 xn c5]) rfl (Sl.new1 _ _ _ _) (fun u hu => by
            simp only [List.mem_cons, List.not_mem_nil, or_false] at hu
            rcases hu with h | h | h | h | h | h <;> subst h <;> rfl) (by unfold maxLen; omega) (by omega) (by rw [World.size_alloc, World.size_alloc]; omega) ?_; intro A6 c6 x6 own6 hg6 hb6)
        | fail)
      have hown6 : OwnF w3.heap.size x6 (H ++ [⟨⟨a1, a2, a3, p, q, xd⟩, A5, c5⟩]) := (fun s hs => by
        rcases List.mem_append.1 hs with hs | hs
        · exact own_keptF (((hown s hs).alloc _).alloc _) ((own2.alloc _).alloc _) hg6
        · obtain rfl : s = ⟨⟨a1, a2, a3, p, q, xd⟩, A5, c5⟩ := by simpa using hs
          simp only
          rw [HXN.out]
          exact own_keptF ((own5.alloc _).alloc _) ((own2.alloc _).alloc _) hg6)
      have hB6 := (since_alloc (since_alloc hBz2 (.cells #[.int .i64 a1, .int .i64 a2, .int .i64 a3, .int .i64 p, .int .i64 q, .slice A5 xn c5] 25)) (.cells #[.int .i64 a1, .int .i64 a2, .int .i64 a3, .int .i64 p, .int .i64 q, .slice A5 xn c5] 25)).trans hb6
      go_roundw
      case rel =>
        refine ⟨k + 1, A6, c6, H ++ [⟨⟨a1, a2, a3, p, q, xd⟩, A5, c5⟩], by omega, by rw [List.length_append, HHK.out]; rfl, by go_num, ?_, by rw [List.map_append, HMAP.out, HTK.out]; rfl, hown6, hB6⟩
        rw [rc_append, List.length_append, HHK.out]
        simp only [rc, List.map_cons, List.map_nil, List.flatten_cons, List.flatten_nil, Fh.cells, List.append_nil, List.length_cons, List.length_nil]
        rw [HXN.out]
        exact own6
      case measure => simp [intOf]; omega
    · obtain rfl : k = R.length := by omega
      have hmp : H.map Fh.f = PS := by rw [HMAP.out, List.take_of_length_le (by have := HRL.out; omega)]
      have HJ := Lib.hid (fjoin7_any A2 c2 H wr (by have := HHK.out; omega) (Sl.of_own own2) (fun h hh => by
        refine ⟨Sl.of_own (hown h hh), ?_⟩
        have hm : h.f ∈ PS := by rw [← hmp]; exact List.mem_map_of_mem hh
        obtain ⟨j, hj, e⟩ := List.mem_iff_getElem.1 hm
        obtain ⟨p, q, xd, hX, _, _, hl⟩ := HPK.out j hj
        rw [← e, hX]
        simp only
        omega))
      rw [hmp, HJN.out, HHK.out] at HJ
      simp only at HJ
      rw [HBN.out] at HJ
      clear hmp
      go_wp2_with fail
      refine HJ.out.mono ?_
      rintro e v2 ⟨⟨A6, c6, rfl, own6⟩, hb2⟩
      have hBz2 := since_step hBz hb2
      have h6 := Sl.of_own own6
      have hsb := hsb.below hBz2
      clear own6 hb2
      go_wp2_with fail
      refine (HSM.out _ _ _ _ _ h6 hsb).mono ?_
      rintro e v3 ⟨rfl, n3, rfl⟩
      go_wp2_with fail
      refine (HLV.out _).mono ?_
      rintro e v4 ⟨rfl, hb4⟩
      have hBz4 := since_step (below_drewN hBz2 n3) hb4
      have hBf := since_step HB0.out hBz4
      go_wp2_with fail
      go_ret
      exact ⟨rfl, hBf⟩

set_option maxHeartbeats 16000000 in
set_option maxRecDepth 100000 in
theorem fback_no_big_none (f : Fr) (A : Option Addr) (c : Nat) (a1 a2 a3 a5 : Int) (a4 : Option Addr) (l : List Nat) (c4 N : Nat) (w : World) (hfc : f.data.length ≤ c) (hcm : c ≤ maxLen) (hsf : Sl w A (by8 f.data)) (hof : Oct f.data)
    (hlc : l.length ≤ c4) (hlm : c4 ≤ maxLen) (hsl : Sl w a4 (by8 l)) (hol : Oct l) (hN : clampI a5 20390 20410 = (N : Int)) (hN0 : 20390 ≤ N) (hN1 : N ≤ 20410) (hok : f.cut.ok = false) (hsm : 20400 < N)
    (z : Int) (hz : z = 6 ∨ z = 2) (hA : cutF a1 a2 a3 (l.take 400) = ([], z)) :
    Calls Try.prog 5 #[f.val A c, .int .i64 a1, .int .i64 a2, .int .i64 a3, .slice a4 l.length c4, .int .i64 a5] w fun e w' => e = .returned (.bool true) ∧ Below w.heap.size w w' := by
  have HSH := Lib.hid (fun V => short7_any f A c V hfc hcm)
  have HCT := Lib.hid (fun V => cut_any a4 l.length c4 400 V (by unfold maxLen at hlm; omega) (by omega) hlc (by unfold maxLen at hlm; omega))
  obtain ⟨b, hb⟩ : ∃ b, l.take 400 = b := ⟨_, rfl⟩
  have hbl : min l.length 400 = b.length := by rw [← hb]; simp; omega
  have hb4 : b.length ≤ 400 := by rw [← hb]; simp; omega
  have hsb : Sl w a4 (by8 b) := by rw [← hb, by8_take]; exact hsl.take _
  have hob : Oct b := fun x hx => hol x (by rw [← hb] at hx; exact List.mem_of_mem_take hx)
  rw [hbl] at HCT
  rw [hb] at hA
  have hsg : Sl w A (by8 f.cut.data) := by unfold Fr.cut; simp only; rw [by8_take]; exact hsf.take _
  have hog : Oct f.cut.data := hof.take _
  have hgl : f.cut.data.length ≤ 90 := by simp [Fr.cut]; omega
  have HEN := Lib.hid (fun V h => fenc7_any f.cut A c V h hog)
  have HPL := Lib.hid (fun A c V => plain7_any f.cut A c V)
  have HXS := Lib.hid (fun A B c d V h1 h2 => rsame7_eq f.cut A B c d V (by omega) h1 h2)
  have HIN := Lib.hid (fun V => in_any a5 20390 20410 V)
  rw [hN] at HIN
  have HNC := Lib.hid (fun A V h => fcut7_any 1 0 1 A N (List.replicate N 0) V (by simp) (by unfold maxLen; omega) (by simp; omega) h Oct.rep)
  have HFC := Lib.hid (fun V h => fcut7_any a1 a2 a3 a4 c4 b V (by omega) hlm (by omega) h hob)
  rw [hA] at HFC
  have HLV := Lib.hid (fun V => lives7_any V)
  rw [show encF f.cut = ([], 2) from if_neg (by rw [hok]; decide)] at HEN
  rw [(cutF_noughts N).2 hsm hN1] at HNC
  have hs1 : ¬ (N : Int) ≤ 20400 := by omega
  have hs2 : (20400 : Int) < (N : Int) := by omega
  have hz0 : ¬ z = 0 := by rcases hz with rfl | rfl <;> decide
  have hz1 : (z != 0) = true := by simp [hz0]
  unfold ERes at HEN
  simp only at HEN
  generalize hgg : f.cut = g at *
  obtain ⟨g0, g1, g2, g3, g4, gd⟩ := g
  obtain ⟨f0, f1, f2, f3, f4, fd⟩ := f
  unfold Fr.val at *
  simp only at *
  clear hgg hfc hcm hof hlc hlm hsl hol hb hbl hb4 hob hog hgl hsf hA hok hN hsm hz
  have hsb := hsb.alloc (.cells #[.int .i64 f0, .int .i64 f1, .int .i64 f2, .int .i64 f3, .int .i64 f4, .slice A fd.length c] 24)
  have hsg := hsg.alloc (.cells #[.int .i64 f0, .int .i64 f1, .int .i64 f2, .int .i64 f3, .int .i64 f4, .slice A fd.length c] 24)
  have hB := since_alloc (Below.refl _ w) (.cells #[.int .i64 f0, .int .i64 f1, .int .i64 f2, .int .i64 f3, .int .i64 f4, .slice A fd.length c] 24)
  have hK := Bk.new w #[.int .i64 f0, .int .i64 f1, .int .i64 f2, .int .i64 f3, .int .i64 f4, .slice A fd.length c] 24
  obtain ⟨fn, hfn⟩ : ∃ n, fd.length = n := ⟨_, rfl⟩
  obtain ⟨gn, hgn⟩ : ∃ n, gd.length = n := ⟨_, rfl⟩
  obtain ⟨bn, hbn⟩ : ∃ n, b.length = n := ⟨_, rfl⟩
  obtain ⟨ln, hln⟩ : ∃ n, l.length = n := ⟨_, rfl⟩
  rw [hfn] at hsb hsg hB hK HSH ⊢
  rw [hgn] at HSH HEN HPL HXS
  rw [hbn] at HCT HFC
  rw [hln] at HCT ⊢
  skip
  clear hfn hgn hbn hln
  simp only [List.length_replicate] at HNC
  go_enter Try.func5, Try.ntmps5
  go_upto_region 1 with fail
  generalize hWW : w.alloc (.cells #[.int .i64 f0, .int .i64 f1, .int .i64 f2, .int .i64 f3, .int .i64 f4, .slice A fn c] 24) = W at *
  clear hWW
  obtain ⟨hK_0, hK_1, hK_2, hK_3, hK_4, hK_5, hK_6⟩ := hK.six
  go_wp2_with fail
  refine (HSH.out _).mono ?_
  rintro e z1 ⟨rfl, hb⟩
  have hB := since_step hB hb
  have hK := hK.below hb
  have hsb := hsb.below hb
  have hsg := hsg.below hb
  clear hb
  clear hK_0 hK_1 hK_2 hK_3 hK_4 hK_5 hK_6
  clear hK
  go_wp2_with fail
  refine (HCT.out _).mono ?_
  rintro e y1 ⟨rfl, rfl⟩
  go_upto_region 2 with fail
  have hG := Bk.new z1 #[.int .i64 g0, .int .i64 g1, .int .i64 g2, .int .i64 g3, .int .i64 g4, .slice A gn c] 25
  have hA := (Below.refl z1.heap.size z1).alloc (Nat.le_refl _) (.cells #[.int .i64 g0, .int .i64 g1, .int .i64 g2, .int .i64 g3, .int .i64 g4, .slice A gn c] 25)
  have hsb := hsb.below hA
  have hsg := hsg.below hA
  have hB := since_step hB hA
  clear hA
  generalize hWW : z1.alloc (.cells #[.int .i64 g0, .int .i64 g1, .int .i64 g2, .int .i64 g3, .int .i64 g4, .slice A gn c] 25) = W2 at *
  clear hWW
  obtain ⟨hG_0, hG_1, hG_2, hG_3, hG_4, hG_5, hG_6⟩ := hG.six
  go_wp2_with fail
  refine (HEN.out _ hsg).mono ?_
  rintro e z2 ⟨⟨AE, cE, rfl, ownE⟩, hb⟩
  have hB := since_step hB hb
  have hsb := hsb.below hb
  have hsg := hsg.below hb
  have hG := hG.below hb
  clear hb
  clear hG_0 hG_1 hG_2 hG_3 hG_4 hG_5 hG_6
  clear ownE
  clear hG
  clear hsg
  go_wp2_with fail
  refine (HIN.out _).mono ?_
  rintro e yy ⟨rfl, rfl⟩
  go_wp2_with (first
    | (at_make; refine wpList_zeros8 rfl (.tmp 56) (.tmp 56) rfl N rfl rfl rfl rfl (by omega) (Nat.le_refl _) ?_; intro w1 own1 hb1)
    | fail)
  have hB := since_step hB hb1
  have hsb := hsb.below hb1
  refine (HNC.out _ _ (Sl.of_own own1)).mono ?_
  rintro e w2 ⟨hC, hb2⟩
  have hB := since_step hB hb2
  have hsb := hsb.below hb2
  obtain ⟨AN, dN, rfl, _⟩ := hC.rows
  clear hC own1 hb1 hb2
  simp only [List.length_nil]
  go_wp2_with fail
  refine (HFC.out _ hsb).mono ?_
  rintro e w3 ⟨hC, hb3⟩
  have hB := since_step hB hb3
  have hsb := hsb.below hb3
  obtain ⟨AR, dR, rfl, rR⟩ := hC.rows
  clear hC hb3
  go_wp2_with fail
  refine (HLV.out _).mono ?_
  rintro e w4 ⟨rfl, hb4⟩
  have hB := since_step hB hb4
  go_wp2_with fail
  go_ret
  exact ⟨rfl, hB⟩

theorem walk_FrameBack (a0 : Array Value) (a1 : Int) (a2 : Int) (a3 : Int) (a4 : Option Addr) (n4 c4 : Nat) (a5 : Int) (w : World) (w0 : Rd w (.cat (.int .i64) (.cat (.int .i64) (.cat (.int .i64) (.cat (.int .i64) (.cat (.int .i64) (.cat (.sl (.int .u8)) .nil)))))) a0.toList) (w1 : (Lit.int .i64 a1).wf = true) (w2 : (Lit.int .i64 a2).wf = true) (w3 : (Lit.int .i64 a3).wf = true) (w4 : Rd w (.sl (.int .u8)) [.slice a4 n4 c4]) (w5 : (Lit.int .i64 a5).wf = true) :
    Calls Try.prog 5 #[.agg a0, .int .i64 a1, .int .i64 a2, .int .i64 a3, .slice a4 n4 c4, .int .i64 a5] w fun e w' => e = .returned (.bool true) ∧ Below w.heap.size w w' := by
  obtain ⟨f, A, c, hf, hfc, hcm, hsf, hof⟩ := rd_fr w0
  obtain ⟨l, rfl, hlc, hlm, hsl, hol⟩ := rd_octs w4
  rw [hf]
  clear hf w0 w1 w2 w3 w4 w5
  have hcl : 20390 ≤ clampI a5 20390 20410 ∧ clampI a5 20390 20410 ≤ 20410 := by unfold clampI; split <;> first | omega | (split <;> omega)
  obtain ⟨N, hN⟩ : ∃ N : Nat, clampI a5 20390 20410 = (N : Int) := ⟨(clampI a5 20390 20410).toNat, by omega⟩
  rw [hN] at hcl
  have hN0 : 20390 ≤ N := by omega
  have hN1 : N ≤ 20410 := by omega
  clear hcl
  rcases cutF_ways a1 a2 a3 (l.take 400) with ⟨P, hP, hP2, hPok, hA⟩ | ⟨z, hz, hA⟩
  · rcases (by omega : N ≤ 20400 ∨ 20400 < N) with hsm | hsm
    · cases hok : f.cut.ok with
      | true => exact fback_ok_small_cut f A c a1 a2 a3 a5 a4 l c4 N w hfc hcm hsf hof hlc hlm hsl hol hN hN0 hN1 hok hsm P hP hP2 hPok hA
      | false => exact fback_no_small_cut f A c a1 a2 a3 a5 a4 l c4 N w hfc hcm hsf hof hlc hlm hsl hol hN hN0 hN1 hok hsm P hP hP2 hPok hA
    · cases hok : f.cut.ok with
      | true => exact fback_ok_big_cut f A c a1 a2 a3 a5 a4 l c4 N w hfc hcm hsf hof hlc hlm hsl hol hN hN0 hN1 hok hsm P hP hP2 hPok hA
      | false => exact fback_no_big_cut f A c a1 a2 a3 a5 a4 l c4 N w hfc hcm hsf hof hlc hlm hsl hol hN hN0 hN1 hok hsm P hP hP2 hPok hA
  · rcases (by omega : N ≤ 20400 ∨ 20400 < N) with hsm | hsm
    · cases hok : f.cut.ok with
      | true => exact fback_ok_small_none f A c a1 a2 a3 a5 a4 l c4 N w hfc hcm hsf hof hlc hlm hsl hol hN hN0 hN1 hok hsm z hz hA
      | false => exact fback_no_small_none f A c a1 a2 a3 a5 a4 l c4 N w hfc hcm hsf hof hlc hlm hsl hol hN hN0 hN1 hok hsm z hz hA
    · cases hok : f.cut.ok with
      | true => exact fback_ok_big_none f A c a1 a2 a3 a5 a4 l c4 N w hfc hcm hsf hof hlc hlm hsl hol hN hN0 hN1 hok hsm z hz hA
      | false => exact fback_no_big_none f A c a1 a2 a3 a5 a4 l c4 N w hfc hcm hsf hof hlc hlm hsl hol hN hN0 hN1 hok hsm z hz hA
end Go.Proofs.Ytfibpkbbpnjepaa
