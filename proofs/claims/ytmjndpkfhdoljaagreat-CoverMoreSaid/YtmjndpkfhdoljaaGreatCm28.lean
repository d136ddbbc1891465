import Derived.Test.YtmjndpkfhdoljaaGreatCm27
set_option maxHeartbeats 16000000
set_option maxRecDepth 100000
set_option linter.unusedVariables false
set_option linter.unusedSimpArgs false
namespace Go.Proofs.YtmjndpkfhdoljaaGreat
open Go.ChangeShapes Go.WideShapes Go.ChangeAt Go.RowKit
section
def setF (x : Lt) : Bool → List Lt → List Lt
  | d, [] => if d = true then [] else [x]
  | d, a :: r => if d = false ∧ ahL a x = false then (if sameL x.ast x.tag a = true then x :: setF x true r else x :: a :: setF x true r) else (if sameL x.ast x.tag a = true then setF x d r else a :: setF x d r)
def LRow (B : Nat) (w' : World) (e : Ending) (R : List Lt) : Prop :=
  ∃ A' c', e = .returned (.slice A' R.length c') ∧ w'.ownsRow B 33 3 (.slice A' R.length c') R.length (rc Lt.cells R)
theorem rc_snoc (R : List Lt) (x : Lt) : rc Lt.cells (R ++ [x]) = rc Lt.cells R ++ x.cells := by simp [rc]
theorem bit_step {α : Type} {R S T : List α} (h : R ++ S = T) {Q U : List α} (e : S = Q ++ U) : (R ++ Q) ++ U = T := by rw [← h, e]; simp
theorem rset_any (A : Option Addr) (cap : Nat) (l : List Lt) (x : Lt) (w : World) (hl : l.length ≤ 900000) (hs : Sl w A (rc Lt.cells l)) :
  Calls Tryz.prog 72 #[.slice A l.length cap, x.val] w fun e w' => LRow w.heap.size w' e (setF x (x.qty == 0) l) ∧ Below w.heap.size w w' := by
 have hB0 := since_alloc (Below.refl _ w) (.cells x.cells.toArray 33)
 have hV0 := Lt.Bx.new w x
 have hs0 := hs.alloc (.cells x.cells.toArray 33)
 obtain ⟨xa, xt, xq⟩ := x
 unfold Lt.val at *
 unfold Lt.cells at hB0 hV0 hs0
 simp only at *
 obtain ⟨L, hL⟩ : ∃ L, setF ⟨xa, xt, xq⟩ (xq == 0) l = L := ⟨_, rfl⟩
 rw [hL]
 clear hs
 go_enter Tryz.func72, Tryz.ntmps72
 go_upto_region 1 with fail
 generalize hWW : w.alloc (.cells #[.int .i64 xa, .int .i64 xt, .int .i64 xq] 33) = W at *
 clear hWW
 have hWs := hB0.size
 have HV : Hid (∀ V, Below W.heap.size W V → Lt.Bx V w.heap.size ⟨xa, xt, xq⟩) := Lib.hid fun V hV => hV0.below hV
 obtain ⟨q0, q1, q2⟩ := hV0.got
 simp only at q0 q1 q2
 have HL0 := Lib.hid hL
 clear hL hV0
 go_wp2_with fail
 go_loopw [5, 6, 7] (fun out dn i wr => ∃ (k : Nat) (R : List Lt) (d : Bool) (A' : Option Addr) (c' : Nat), k ≤ l.length ∧ R.length ≤ 2 * k ∧ i = .int .i64 k ∧ dn = .bool d ∧ out = .slice A' R.length c' ∧ wr.ownsRow W.heap.size 33 3 (.slice A' R.length c') R.length (rc Lt.cells R) ∧ R ++ setF ⟨xa, xt, xq⟩ d (l.drop k) = L ∧ Below W.heap.size W wr) (fun _ _ i _ => l.length - (intOf i).toNat)
 case atStart => exact ⟨0, [], (xq == 0), none, 0, by omega, by simp, rfl, rfl, rfl, own_nil _ _ _, HL0.out, Below.refl _ _⟩
 case round =>
  obtain ⟨k, R, d, A', c', hk, hRl, rfl, rfl, rfl, hown, hI, hB⟩ := hrel
  have HI := Lib.hid hI
  clear hI HL0 q0 q1 q2
  by_cases hlt : k < l.length
  ·obtain ⟨b, o, rfl, hbw, hg⟩ := hs0.lt hlt
   obtain ⟨v, hv⟩ : ∃ v, l[k] = v := ⟨_, rfl⟩
   have HD : Hid (l.drop k = v :: l.drop (k + 1)) := Lib.hid (by rw [← hv]; exact List.drop_eq_getElem_cons hlt)
   rw [hv] at hg
   have HG : Hid (∀ V, Below W.heap.size W V → Lt.at v V b (o + k * 3)) := Lib.hid fun V hV => Lt.at_keep (w := W) hg fun i => hV.cell (p := ⟨b, i, none⟩) hbw
   have hlk : (k : Int) < (l.length : Int) := by omega
   have hge : (0 : Int) ≤ (k : Int) := by omega
   have HL := Lib.hid (fun V => rless_any v ⟨xa, xt, xq⟩ V)
   clear hv hg
   obtain ⟨va, vt, vq⟩ := v
   cases d with
   | true =>
    by_cases h1 : va = xa
    ·by_cases h2 : vt = xt
     ·have hs1 : sameL xa xt ⟨va, vt, vq⟩ = true := by simp [sameL, h1, h2]
      have HN : Hid ((R ++ ([] : List Lt)) ++ setF ⟨xa, xt, xq⟩ true (l.drop (k + 1)) = L) := Lib.hid (bit_step (HI.out.trans rfl) (by rw [HD.out]; simp [setF, hs1]))
      have HNR : Hid ((R ++ ([] : List Lt)).length = R.length + 0) := Lib.hid (by simp)
      have HRC : Hid (rc Lt.cells (R ++ ([] : List Lt)) = rc Lt.cells R) := Lib.hid (by simp [rc])
      have h1b : (va == xa) = true := by simpa using h1
      have h1c : (va != xa) = false := by simpa using h1
      have h2b : (vt == xt) = true := by simpa using h2
      have h2c : (vt != xt) = false := by simpa using h2
      clear h1 h2
      clear hs1 HI HD
      have H6V : Hid (∀ V, Below wr.heap.size wr V → Lt.Bx V w.heap.size ⟨xa, xt, xq⟩) := Lib.hid fun V hV => HV.out _ (hB.trans (hV.mono hB.size))
      have H6G : Hid (∀ V, Below wr.heap.size wr V → Lt.at ⟨va, vt, vq⟩ V b (o + k * 3)) := Lib.hid fun V hV => HG.out _ (hB.trans (hV.mono hB.size))
      unfold Lt.at at H6G HG
      simp only at H6G HG
      go_wp2_with fail
      refine wp_region_held_drew (S := (fun V => Below wr.heap.size wr V)) (by kernel_rfl) (by exact (Below.refl _ _).drew) (fun hHeld => ?_)
      refine tkI 0 17 rfl (by intro w hSw; obtain ⟨q0, q1, q2⟩ := (H6V.out _ hSw).got; simp only at q0 q1 q2; obtain ⟨g0, g1, g2⟩ := H6G.out _ hSw; go_simp <;> with_reducible rfl) hHeld ?_; simp only [pqZ]
      refine tkI 1 18 rfl (by intro w hSw; obtain ⟨q0, q1, q2⟩ := (H6V.out _ hSw).got; simp only at q0 q1 q2; obtain ⟨g0, g1, g2⟩ := H6G.out _ hSw; go_simp <;> with_reducible rfl) hHeld ?_; simp only [pqZ]
      refine tkI 2 19 rfl (by intro w hSw; obtain ⟨q0, q1, q2⟩ := (H6V.out _ hSw).got; simp only at q0 q1 q2; obtain ⟨g0, g1, g2⟩ := H6G.out _ hSw; go_simp <;> with_reducible rfl) hHeld ?_; simp only [pqZ]
      refine tkO 3 20 rfl (by kernel_rfl) (by rfl) hHeld ?_; simp only [pqZ]
      refine tkO 4 21 rfl (by kernel_rfl) (by rfl) hHeld ?_; simp only [pqZ]
      refine tkO 5 22 rfl (by kernel_rfl) (by rfl) hHeld ?_; simp only [pqZ]
      refine tkO 6 23 rfl (by kernel_rfl) (by rfl) hHeld ?_; simp only [pqZ]
      refine tkO 7 24 rfl (by kernel_rfl) (by rfl) hHeld ?_; simp only [pqZ]
      refine tkO 8 25 rfl (by kernel_rfl) (by rfl) hHeld ?_; simp only [pqZ]
      refine tkO 9 26 rfl (by kernel_rfl) (by rfl) hHeld ?_; simp only [pqZ]
      refine tkI 10 27 rfl (by intro w hSw; obtain ⟨q0, q1, q2⟩ := (H6V.out _ hSw).got; simp only at q0 q1 q2; obtain ⟨g0, g1, g2⟩ := H6G.out _ hSw; go_simp <;> with_reducible rfl) hHeld ?_; simp only [pqZ]
      refine wpAnyH_done (by kernel_rfl) ?_ _
      generalize wr.drew = VV at *
      have hB3 := hB.trans (hHeld.mono hB.size)
      have hown := own_below hown hHeld
      have hsz := hB3.size
      clear hHeld
      obtain ⟨q0, q1, q2⟩ := (HV.out _ hB3).got
      simp only at q0 q1 q2
      clear q0 q1 q2
      go_wp2_with fail
      have hB4 := hB3
      clear hB3 hsz
      have H9V : Hid (∀ V, Below VV.heap.size VV V → Lt.Bx V w.heap.size ⟨xa, xt, xq⟩) := Lib.hid fun V hV => HV.out _ (hB4.trans (hV.mono hB4.size))
      have H9G : Hid (∀ V, Below VV.heap.size VV V → _) := Lib.hid fun V hV => HG.out _ (hB4.trans (hV.mono hB4.size))
      refine wp_region_held_drew (S := (fun V => Below VV.heap.size VV V)) (by kernel_rfl) (by exact (Below.refl _ _).drew) (fun hHeld => ?_)
      refine tkI 0 32 rfl (by intro w hSw; obtain ⟨q0, q1, q2⟩ := (H9V.out _ hSw).got; simp only at q0 q1 q2; obtain ⟨g0, g1, g2⟩ := H9G.out _ hSw; go_simp <;> with_reducible rfl) hHeld ?_; simp only [pqZ]
      refine tkI 1 33 rfl (by intro w hSw; obtain ⟨q0, q1, q2⟩ := (H9V.out _ hSw).got; simp only at q0 q1 q2; obtain ⟨g0, g1, g2⟩ := H9G.out _ hSw; go_simp <;> with_reducible rfl) hHeld ?_; simp only [pqZ]
      refine tkI 2 34 rfl (by intro w hSw; obtain ⟨q0, q1, q2⟩ := (H9V.out _ hSw).got; simp only at q0 q1 q2; obtain ⟨g0, g1, g2⟩ := H9G.out _ hSw; go_simp <;> with_reducible rfl) hHeld ?_; simp only [pqZ]
      refine tkI 3 35 rfl (by intro w hSw; obtain ⟨q0, q1, q2⟩ := (H9V.out _ hSw).got; simp only at q0 q1 q2; obtain ⟨g0, g1, g2⟩ := H9G.out _ hSw; go_simp <;> with_reducible rfl) hHeld ?_; simp only [pqZ]
      refine tkI 4 36 rfl (by intro w hSw; obtain ⟨q0, q1, q2⟩ := (H9V.out _ hSw).got; simp only at q0 q1 q2; obtain ⟨g0, g1, g2⟩ := H9G.out _ hSw; go_simp <;> with_reducible rfl) hHeld ?_; simp only [pqZ]
      refine tkI 5 37 rfl (by intro w hSw; obtain ⟨q0, q1, q2⟩ := (H9V.out _ hSw).got; simp only at q0 q1 q2; obtain ⟨g0, g1, g2⟩ := H9G.out _ hSw; go_simp <;> with_reducible rfl) hHeld ?_; simp only [pqZ]
      refine tkI 6 38 rfl (by intro w hSw; obtain ⟨q0, q1, q2⟩ := (H9V.out _ hSw).got; simp only at q0 q1 q2; obtain ⟨g0, g1, g2⟩ := H9G.out _ hSw; go_simp <;> with_reducible rfl) hHeld ?_; simp only [pqZ]
      refine tkI 7 39 rfl (by intro w hSw; obtain ⟨q0, q1, q2⟩ := (H9V.out _ hSw).got; simp only at q0 q1 q2; obtain ⟨g0, g1, g2⟩ := H9G.out _ hSw; go_simp <;> with_reducible rfl) hHeld ?_; simp only [pqZ]
      refine tkI 8 40 rfl (by intro w hSw; obtain ⟨q0, q1, q2⟩ := (H9V.out _ hSw).got; simp only at q0 q1 q2; obtain ⟨g0, g1, g2⟩ := H9G.out _ hSw; go_simp <;> with_reducible rfl) hHeld ?_; simp only [pqZ]
      refine tkI 9 41 rfl (by intro w hSw; obtain ⟨q0, q1, q2⟩ := (H9V.out _ hSw).got; simp only at q0 q1 q2; obtain ⟨g0, g1, g2⟩ := H9G.out _ hSw; go_simp <;> with_reducible rfl) hHeld ?_; simp only [pqZ]
      refine tkI 10 42 rfl (by intro w hSw; obtain ⟨q0, q1, q2⟩ := (H9V.out _ hSw).got; simp only at q0 q1 q2; obtain ⟨g0, g1, g2⟩ := H9G.out _ hSw; go_simp <;> with_reducible rfl) hHeld ?_; simp only [pqZ]
      refine tkI 11 43 rfl (by intro w hSw; obtain ⟨q0, q1, q2⟩ := (H9V.out _ hSw).got; simp only at q0 q1 q2; obtain ⟨g0, g1, g2⟩ := H9G.out _ hSw; go_simp <;> with_reducible rfl) hHeld ?_; simp only [pqZ]
      refine tkI 12 44 rfl (by intro w hSw; obtain ⟨q0, q1, q2⟩ := (H9V.out _ hSw).got; simp only at q0 q1 q2; obtain ⟨g0, g1, g2⟩ := H9G.out _ hSw; go_simp <;> with_reducible rfl) hHeld ?_; simp only [pqZ]
      refine tkI 13 45 rfl (by intro w hSw; obtain ⟨q0, q1, q2⟩ := (H9V.out _ hSw).got; simp only at q0 q1 q2; obtain ⟨g0, g1, g2⟩ := H9G.out _ hSw; go_simp <;> with_reducible rfl) hHeld ?_; simp only [pqZ]
      refine tkI 14 46 rfl (by intro w hSw; obtain ⟨q0, q1, q2⟩ := (H9V.out _ hSw).got; simp only at q0 q1 q2; obtain ⟨g0, g1, g2⟩ := H9G.out _ hSw; go_simp <;> with_reducible rfl) hHeld ?_; simp only [pqZ]
      refine tkI 15 47 rfl (by intro w hSw; obtain ⟨q0, q1, q2⟩ := (H9V.out _ hSw).got; simp only at q0 q1 q2; obtain ⟨g0, g1, g2⟩ := H9G.out _ hSw; go_simp <;> with_reducible rfl) hHeld ?_; simp only [pqZ]
      refine tkI 16 48 rfl (by intro w hSw; obtain ⟨q0, q1, q2⟩ := (H9V.out _ hSw).got; simp only at q0 q1 q2; obtain ⟨g0, g1, g2⟩ := H9G.out _ hSw; go_simp <;> with_reducible rfl) hHeld ?_; simp only [pqZ]
      refine tkI 17 49 rfl (by intro w hSw; obtain ⟨q0, q1, q2⟩ := (H9V.out _ hSw).got; simp only at q0 q1 q2; obtain ⟨g0, g1, g2⟩ := H9G.out _ hSw; go_simp <;> with_reducible rfl) hHeld ?_; simp only [pqZ]
      refine wpAnyH_done (by kernel_rfl) ?_ _
      generalize VV.drew = Vn at *
      have hB5 := hB4.trans (hHeld.mono hB4.size)
      have hown := own_below hown hHeld
      have hsz := hB5.size
      clear hHeld
      go_wp2_with fail
      go_roundw
      case rel => exact ⟨k + 1, R ++ ([] : List Lt), true, A', c', by omega, by rw [HNR.out]; omega, by go_num, rfl, by rw [HNR.out, Nat.add_zero], by rw [HNR.out, HRC.out]; exact hown, HN.out, hB5⟩
      case measure => simp [intOf]; omega
     ·have hs1 : sameL xa xt ⟨va, vt, vq⟩ = false := by simp [sameL, h2]
      have HN : Hid ((R ++ ([⟨va, vt, vq⟩] : List Lt)) ++ setF ⟨xa, xt, xq⟩ true (l.drop (k + 1)) = L) := Lib.hid (bit_step (HI.out.trans rfl) (by rw [HD.out]; simp [setF, hs1]))
      have HNR : Hid ((R ++ ([⟨va, vt, vq⟩] : List Lt)).length = R.length + 1) := Lib.hid (by simp)
      have HRC : Hid (rc Lt.cells (R ++ ([⟨va, vt, vq⟩] : List Lt)) = rc Lt.cells R ++ (⟨va, vt, vq⟩ : Lt).cells) := Lib.hid (by simp [rc])
      have h1b : (va == xa) = true := by simpa using h1
      have h1c : (va != xa) = false := by simpa using h1
      have h2b : (vt == xt) = false := by simpa using h2
      have h2c : (vt != xt) = true := by simpa using h2
      clear h1 h2
      clear hs1 HI HD
      have H6V : Hid (∀ V, Below wr.heap.size wr V → Lt.Bx V w.heap.size ⟨xa, xt, xq⟩) := Lib.hid fun V hV => HV.out _ (hB.trans (hV.mono hB.size))
      have H6G : Hid (∀ V, Below wr.heap.size wr V → Lt.at ⟨va, vt, vq⟩ V b (o + k * 3)) := Lib.hid fun V hV => HG.out _ (hB.trans (hV.mono hB.size))
      unfold Lt.at at H6G HG
      simp only at H6G HG
      go_wp2_with fail
      refine wp_region_held_drew (S := (fun V => Below wr.heap.size wr V)) (by kernel_rfl) (by exact (Below.refl _ _).drew) (fun hHeld => ?_)
      refine tkI 0 17 rfl (by intro w hSw; obtain ⟨q0, q1, q2⟩ := (H6V.out _ hSw).got; simp only at q0 q1 q2; obtain ⟨g0, g1, g2⟩ := H6G.out _ hSw; go_simp <;> with_reducible rfl) hHeld ?_; simp only [pqZ]
      refine tkI 1 18 rfl (by intro w hSw; obtain ⟨q0, q1, q2⟩ := (H6V.out _ hSw).got; simp only at q0 q1 q2; obtain ⟨g0, g1, g2⟩ := H6G.out _ hSw; go_simp <;> with_reducible rfl) hHeld ?_; simp only [pqZ]
      refine tkI 2 19 rfl (by intro w hSw; obtain ⟨q0, q1, q2⟩ := (H6V.out _ hSw).got; simp only at q0 q1 q2; obtain ⟨g0, g1, g2⟩ := H6G.out _ hSw; go_simp <;> with_reducible rfl) hHeld ?_; simp only [pqZ]
      refine tkO 3 20 rfl (by kernel_rfl) (by rfl) hHeld ?_; simp only [pqZ]
      refine tkO 4 21 rfl (by kernel_rfl) (by rfl) hHeld ?_; simp only [pqZ]
      refine tkO 5 22 rfl (by kernel_rfl) (by rfl) hHeld ?_; simp only [pqZ]
      refine tkO 6 23 rfl (by kernel_rfl) (by rfl) hHeld ?_; simp only [pqZ]
      refine tkO 7 24 rfl (by kernel_rfl) (by rfl) hHeld ?_; simp only [pqZ]
      refine tkO 8 25 rfl (by kernel_rfl) (by rfl) hHeld ?_; simp only [pqZ]
      refine tkO 9 26 rfl (by kernel_rfl) (by rfl) hHeld ?_; simp only [pqZ]
      refine tkI 10 27 rfl (by intro w hSw; obtain ⟨q0, q1, q2⟩ := (H6V.out _ hSw).got; simp only at q0 q1 q2; obtain ⟨g0, g1, g2⟩ := H6G.out _ hSw; go_simp <;> with_reducible rfl) hHeld ?_; simp only [pqZ]
      refine wpAnyH_done (by kernel_rfl) ?_ _
      generalize wr.drew = VV at *
      have hB3 := hB.trans (hHeld.mono hB.size)
      have hown := own_below hown hHeld
      have hsz := hB3.size
      clear hHeld
      obtain ⟨q0, q1, q2⟩ := (HV.out _ hB3).got
      simp only at q0 q1 q2
      clear q0 q1 q2
      go_wp2_with fail
      have hB4 := hB3
      clear hB3 hsz
      have H9V : Hid (∀ V, Below VV.heap.size VV V → Lt.Bx V w.heap.size ⟨xa, xt, xq⟩) := Lib.hid fun V hV => HV.out _ (hB4.trans (hV.mono hB4.size))
      have H9G : Hid (∀ V, Below VV.heap.size VV V → _) := Lib.hid fun V hV => HG.out _ (hB4.trans (hV.mono hB4.size))
      refine wp_region_held_drew (S := (fun V => Below VV.heap.size VV V)) (by kernel_rfl) (by exact (Below.refl _ _).drew) (fun hHeld => ?_)
      refine tkI 0 32 rfl (by intro w hSw; obtain ⟨q0, q1, q2⟩ := (H9V.out _ hSw).got; simp only at q0 q1 q2; obtain ⟨g0, g1, g2⟩ := H9G.out _ hSw; go_simp <;> with_reducible rfl) hHeld ?_; simp only [pqZ]
      refine tkI 1 33 rfl (by intro w hSw; obtain ⟨q0, q1, q2⟩ := (H9V.out _ hSw).got; simp only at q0 q1 q2; obtain ⟨g0, g1, g2⟩ := H9G.out _ hSw; go_simp <;> with_reducible rfl) hHeld ?_; simp only [pqZ]
      refine tkI 2 34 rfl (by intro w hSw; obtain ⟨q0, q1, q2⟩ := (H9V.out _ hSw).got; simp only at q0 q1 q2; obtain ⟨g0, g1, g2⟩ := H9G.out _ hSw; go_simp <;> with_reducible rfl) hHeld ?_; simp only [pqZ]
      refine tkI 3 35 rfl (by intro w hSw; obtain ⟨q0, q1, q2⟩ := (H9V.out _ hSw).got; simp only at q0 q1 q2; obtain ⟨g0, g1, g2⟩ := H9G.out _ hSw; go_simp <;> with_reducible rfl) hHeld ?_; simp only [pqZ]
      refine tkI 4 36 rfl (by intro w hSw; obtain ⟨q0, q1, q2⟩ := (H9V.out _ hSw).got; simp only at q0 q1 q2; obtain ⟨g0, g1, g2⟩ := H9G.out _ hSw; go_simp <;> with_reducible rfl) hHeld ?_; simp only [pqZ]
      refine tkI 5 37 rfl (by intro w hSw; obtain ⟨q0, q1, q2⟩ := (H9V.out _ hSw).got; simp only at q0 q1 q2; obtain ⟨g0, g1, g2⟩ := H9G.out _ hSw; go_simp <;> with_reducible rfl) hHeld ?_; simp only [pqZ]
      refine tkI 6 38 rfl (by intro w hSw; obtain ⟨q0, q1, q2⟩ := (H9V.out _ hSw).got; simp only at q0 q1 q2; obtain ⟨g0, g1, g2⟩ := H9G.out _ hSw; go_simp <;> with_reducible rfl) hHeld ?_; simp only [pqZ]
      refine tkI 7 39 rfl (by intro w hSw; obtain ⟨q0, q1, q2⟩ := (H9V.out _ hSw).got; simp only at q0 q1 q2; obtain ⟨g0, g1, g2⟩ := H9G.out _ hSw; go_simp <;> with_reducible rfl) hHeld ?_; simp only [pqZ]
      refine tkI 8 40 rfl (by intro w hSw; obtain ⟨q0, q1, q2⟩ := (H9V.out _ hSw).got; simp only at q0 q1 q2; obtain ⟨g0, g1, g2⟩ := H9G.out _ hSw; go_simp <;> with_reducible rfl) hHeld ?_; simp only [pqZ]
      refine tkI 9 41 rfl (by intro w hSw; obtain ⟨q0, q1, q2⟩ := (H9V.out _ hSw).got; simp only at q0 q1 q2; obtain ⟨g0, g1, g2⟩ := H9G.out _ hSw; go_simp <;> with_reducible rfl) hHeld ?_; simp only [pqZ]
      refine tkI 10 42 rfl (by intro w hSw; obtain ⟨q0, q1, q2⟩ := (H9V.out _ hSw).got; simp only at q0 q1 q2; obtain ⟨g0, g1, g2⟩ := H9G.out _ hSw; go_simp <;> with_reducible rfl) hHeld ?_; simp only [pqZ]
      refine tkI 11 43 rfl (by intro w hSw; obtain ⟨q0, q1, q2⟩ := (H9V.out _ hSw).got; simp only at q0 q1 q2; obtain ⟨g0, g1, g2⟩ := H9G.out _ hSw; go_simp <;> with_reducible rfl) hHeld ?_; simp only [pqZ]
      refine tkI 12 44 rfl (by intro w hSw; obtain ⟨q0, q1, q2⟩ := (H9V.out _ hSw).got; simp only at q0 q1 q2; obtain ⟨g0, g1, g2⟩ := H9G.out _ hSw; go_simp <;> with_reducible rfl) hHeld ?_; simp only [pqZ]
      refine tkI 13 45 rfl (by intro w hSw; obtain ⟨q0, q1, q2⟩ := (H9V.out _ hSw).got; simp only at q0 q1 q2; obtain ⟨g0, g1, g2⟩ := H9G.out _ hSw; go_simp <;> with_reducible rfl) hHeld ?_; simp only [pqZ]
      refine tkI 14 46 rfl (by intro w hSw; obtain ⟨q0, q1, q2⟩ := (H9V.out _ hSw).got; simp only at q0 q1 q2; obtain ⟨g0, g1, g2⟩ := H9G.out _ hSw; go_simp <;> with_reducible rfl) hHeld ?_; simp only [pqZ]
      refine tkI 15 47 rfl (by intro w hSw; obtain ⟨q0, q1, q2⟩ := (H9V.out _ hSw).got; simp only at q0 q1 q2; obtain ⟨g0, g1, g2⟩ := H9G.out _ hSw; go_simp <;> with_reducible rfl) hHeld ?_; simp only [pqZ]
      refine tkI 16 48 rfl (by intro w hSw; obtain ⟨q0, q1, q2⟩ := (H9V.out _ hSw).got; simp only at q0 q1 q2; obtain ⟨g0, g1, g2⟩ := H9G.out _ hSw; go_simp <;> with_reducible rfl) hHeld ?_; simp only [pqZ]
      refine tkI 17 49 rfl (by intro w hSw; obtain ⟨q0, q1, q2⟩ := (H9V.out _ hSw).got; simp only at q0 q1 q2; obtain ⟨g0, g1, g2⟩ := H9G.out _ hSw; go_simp <;> with_reducible rfl) hHeld ?_; simp only [pqZ]
      refine wpAnyH_done (by kernel_rfl) ?_ _
      generalize VV.drew = Vn at *
      have hB5 := hB4.trans (hHeld.mono hB4.size)
      have hown := own_below hown hHeld
      have hsz := hB5.size
      clear hHeld
      obtain ⟨g0, g1, g2⟩ := HG.out _ hB5
      go_wp2_with (first
       | (at_builtin; refine wpList_app rfl (.tmp 50) (.tmp 55) rfl ELt rfl rfl (hown.alloc _) (m := 1) (news := (⟨va, vt, vq⟩ : Lt).cells) rfl (Sl.new_ _ _ _) (Lt.one _) (by unfold maxLen; omega) (by omega) (by simp only [World.size_alloc]; omega) ?_; intro A5 c5 w5 hown5 hg5 hb5)
       | fail)
      have hB6 := (since_alloc hB5 (.cells #[.int .i64 va, .int .i64 vt, .int .i64 vq] 33)).trans hb5
      have hown := hown5
      clear hown5 hg5 hb5
      go_roundw
      case rel => exact ⟨k + 1, R ++ ([⟨va, vt, vq⟩] : List Lt), true, A5, c5, by omega, by rw [HNR.out]; omega, by go_num, rfl, by rw [HNR.out], by rw [HNR.out, HRC.out]; exact hown, HN.out, hB6⟩
      case measure => simp [intOf]; omega
    ·have hs1 : sameL xa xt ⟨va, vt, vq⟩ = false := by simp [sameL, h1]
     have HN : Hid ((R ++ ([⟨va, vt, vq⟩] : List Lt)) ++ setF ⟨xa, xt, xq⟩ true (l.drop (k + 1)) = L) := Lib.hid (bit_step (HI.out.trans rfl) (by rw [HD.out]; simp [setF, hs1]))
     have HNR : Hid ((R ++ ([⟨va, vt, vq⟩] : List Lt)).length = R.length + 1) := Lib.hid (by simp)
     have HRC : Hid (rc Lt.cells (R ++ ([⟨va, vt, vq⟩] : List Lt)) = rc Lt.cells R ++ (⟨va, vt, vq⟩ : Lt).cells) := Lib.hid (by simp [rc])
     have h1b : (va == xa) = false := by simpa using h1
     have h1c : (va != xa) = true := by simpa using h1
     clear h1
     clear hs1 HI HD
     have H6V : Hid (∀ V, Below wr.heap.size wr V → Lt.Bx V w.heap.size ⟨xa, xt, xq⟩) := Lib.hid fun V hV => HV.out _ (hB.trans (hV.mono hB.size))
     have H6G : Hid (∀ V, Below wr.heap.size wr V → Lt.at ⟨va, vt, vq⟩ V b (o + k * 3)) := Lib.hid fun V hV => HG.out _ (hB.trans (hV.mono hB.size))
     unfold Lt.at at H6G HG
     simp only at H6G HG
     go_wp2_with fail
     refine wp_region_held_drew (S := (fun V => Below wr.heap.size wr V)) (by kernel_rfl) (by exact (Below.refl _ _).drew) (fun hHeld => ?_)
     refine tkI 0 17 rfl (by intro w hSw; obtain ⟨q0, q1, q2⟩ := (H6V.out _ hSw).got; simp only at q0 q1 q2; obtain ⟨g0, g1, g2⟩ := H6G.out _ hSw; go_simp <;> with_reducible rfl) hHeld ?_; simp only [pqZ]
     refine tkI 1 18 rfl (by intro w hSw; obtain ⟨q0, q1, q2⟩ := (H6V.out _ hSw).got; simp only at q0 q1 q2; obtain ⟨g0, g1, g2⟩ := H6G.out _ hSw; go_simp <;> with_reducible rfl) hHeld ?_; simp only [pqZ]
     refine tkI 2 19 rfl (by intro w hSw; obtain ⟨q0, q1, q2⟩ := (H6V.out _ hSw).got; simp only at q0 q1 q2; obtain ⟨g0, g1, g2⟩ := H6G.out _ hSw; go_simp <;> with_reducible rfl) hHeld ?_; simp only [pqZ]
     refine tkO 3 20 rfl (by kernel_rfl) (by rfl) hHeld ?_; simp only [pqZ]
     refine tkO 4 21 rfl (by kernel_rfl) (by rfl) hHeld ?_; simp only [pqZ]
     refine tkO 5 22 rfl (by kernel_rfl) (by rfl) hHeld ?_; simp only [pqZ]
     refine tkO 6 23 rfl (by kernel_rfl) (by rfl) hHeld ?_; simp only [pqZ]
     refine tkO 7 24 rfl (by kernel_rfl) (by rfl) hHeld ?_; simp only [pqZ]
     refine tkO 8 25 rfl (by kernel_rfl) (by rfl) hHeld ?_; simp only [pqZ]
     refine tkO 9 26 rfl (by kernel_rfl) (by rfl) hHeld ?_; simp only [pqZ]
     refine tkI 10 27 rfl (by intro w hSw; obtain ⟨q0, q1, q2⟩ := (H6V.out _ hSw).got; simp only at q0 q1 q2; obtain ⟨g0, g1, g2⟩ := H6G.out _ hSw; go_simp <;> with_reducible rfl) hHeld ?_; simp only [pqZ]
     refine wpAnyH_done (by kernel_rfl) ?_ _
     generalize wr.drew = VV at *
     have hB3 := hB.trans (hHeld.mono hB.size)
     have hown := own_below hown hHeld
     have hsz := hB3.size
     clear hHeld
     obtain ⟨q0, q1, q2⟩ := (HV.out _ hB3).got
     simp only at q0 q1 q2
     clear q0 q1 q2
     go_wp2_with fail
     have hB4 := hB3
     clear hB3 hsz
     have H9V : Hid (∀ V, Below VV.heap.size VV V → Lt.Bx V w.heap.size ⟨xa, xt, xq⟩) := Lib.hid fun V hV => HV.out _ (hB4.trans (hV.mono hB4.size))
     have H9G : Hid (∀ V, Below VV.heap.size VV V → _) := Lib.hid fun V hV => HG.out _ (hB4.trans (hV.mono hB4.size))
     refine wp_region_held_drew (S := (fun V => Below VV.heap.size VV V)) (by kernel_rfl) (by exact (Below.refl _ _).drew) (fun hHeld => ?_)
     refine tkI 0 32 rfl (by intro w hSw; obtain ⟨q0, q1, q2⟩ := (H9V.out _ hSw).got; simp only at q0 q1 q2; obtain ⟨g0, g1, g2⟩ := H9G.out _ hSw; go_simp <;> with_reducible rfl) hHeld ?_; simp only [pqZ]
     refine tkI 1 33 rfl (by intro w hSw; obtain ⟨q0, q1, q2⟩ := (H9V.out _ hSw).got; simp only at q0 q1 q2; obtain ⟨g0, g1, g2⟩ := H9G.out _ hSw; go_simp <;> with_reducible rfl) hHeld ?_; simp only [pqZ]
     refine tkI 2 34 rfl (by intro w hSw; obtain ⟨q0, q1, q2⟩ := (H9V.out _ hSw).got; simp only at q0 q1 q2; obtain ⟨g0, g1, g2⟩ := H9G.out _ hSw; go_simp <;> with_reducible rfl) hHeld ?_; simp only [pqZ]
     refine tkI 3 35 rfl (by intro w hSw; obtain ⟨q0, q1, q2⟩ := (H9V.out _ hSw).got; simp only at q0 q1 q2; obtain ⟨g0, g1, g2⟩ := H9G.out _ hSw; go_simp <;> with_reducible rfl) hHeld ?_; simp only [pqZ]
     refine tkI 4 36 rfl (by intro w hSw; obtain ⟨q0, q1, q2⟩ := (H9V.out _ hSw).got; simp only at q0 q1 q2; obtain ⟨g0, g1, g2⟩ := H9G.out _ hSw; go_simp <;> with_reducible rfl) hHeld ?_; simp only [pqZ]
     refine tkI 5 37 rfl (by intro w hSw; obtain ⟨q0, q1, q2⟩ := (H9V.out _ hSw).got; simp only at q0 q1 q2; obtain ⟨g0, g1, g2⟩ := H9G.out _ hSw; go_simp <;> with_reducible rfl) hHeld ?_; simp only [pqZ]
     refine tkI 6 38 rfl (by intro w hSw; obtain ⟨q0, q1, q2⟩ := (H9V.out _ hSw).got; simp only at q0 q1 q2; obtain ⟨g0, g1, g2⟩ := H9G.out _ hSw; go_simp <;> with_reducible rfl) hHeld ?_; simp only [pqZ]
     refine tkI 7 39 rfl (by intro w hSw; obtain ⟨q0, q1, q2⟩ := (H9V.out _ hSw).got; simp only at q0 q1 q2; obtain ⟨g0, g1, g2⟩ := H9G.out _ hSw; go_simp <;> with_reducible rfl) hHeld ?_; simp only [pqZ]
     refine tkI 8 40 rfl (by intro w hSw; obtain ⟨q0, q1, q2⟩ := (H9V.out _ hSw).got; simp only at q0 q1 q2; obtain ⟨g0, g1, g2⟩ := H9G.out _ hSw; go_simp <;> with_reducible rfl) hHeld ?_; simp only [pqZ]
     refine tkO 9 41 rfl (by kernel_rfl) (by rfl) hHeld ?_; simp only [pqZ]
     refine tkO 10 42 rfl (by kernel_rfl) (by rfl) hHeld ?_; simp only [pqZ]
     refine tkO 11 43 rfl (by kernel_rfl) (by rfl) hHeld ?_; simp only [pqZ]
     refine tkO 12 44 rfl (by kernel_rfl) (by rfl) hHeld ?_; simp only [pqZ]
     refine tkO 13 45 rfl (by kernel_rfl) (by rfl) hHeld ?_; simp only [pqZ]
     refine tkO 14 46 rfl (by kernel_rfl) (by rfl) hHeld ?_; simp only [pqZ]
     refine tkO 15 47 rfl (by kernel_rfl) (by rfl) hHeld ?_; simp only [pqZ]
     refine tkO 16 48 rfl (by kernel_rfl) (by rfl) hHeld ?_; simp only [pqZ]
     refine tkI 17 49 rfl (by intro w hSw; obtain ⟨q0, q1, q2⟩ := (H9V.out _ hSw).got; simp only at q0 q1 q2; obtain ⟨g0, g1, g2⟩ := H9G.out _ hSw; go_simp <;> with_reducible rfl) hHeld ?_; simp only [pqZ]
     refine wpAnyH_done (by kernel_rfl) ?_ _
     generalize VV.drew = Vn at *
     have hB5 := hB4.trans (hHeld.mono hB4.size)
     have hown := own_below hown hHeld
     have hsz := hB5.size
     clear hHeld
     obtain ⟨g0, g1, g2⟩ := HG.out _ hB5
     go_wp2_with (first
      | (at_builtin; refine wpList_app rfl (.tmp 50) (.tmp 55) rfl ELt rfl rfl (hown.alloc _) (m := 1) (news := (⟨va, vt, vq⟩ : Lt).cells) rfl (Sl.new_ _ _ _) (Lt.one _) (by unfold maxLen; omega) (by omega) (by simp only [World.size_alloc]; omega) ?_; intro A5 c5 w5 hown5 hg5 hb5)
      | fail)
     have hB6 := (since_alloc hB5 (.cells #[.int .i64 va, .int .i64 vt, .int .i64 vq] 33)).trans hb5
     have hown := hown5
     clear hown5 hg5 hb5
     go_roundw
     case rel => exact ⟨k + 1, R ++ ([⟨va, vt, vq⟩] : List Lt), true, A5, c5, by omega, by rw [HNR.out]; omega, by go_num, rfl, by rw [HNR.out], by rw [HNR.out, HRC.out]; exact hown, HN.out, hB6⟩
     case measure => simp [intOf]; omega
   | false =>
    cases ha : ahL ⟨va, vt, vq⟩ ⟨xa, xt, xq⟩ with
    | true =>
     by_cases h1 : va = xa
     ·by_cases h2 : vt = xt
      ·have hs1 : sameL xa xt ⟨va, vt, vq⟩ = true := by simp [sameL, h1, h2]
       have HN : Hid ((R ++ ([] : List Lt)) ++ setF ⟨xa, xt, xq⟩ false (l.drop (k + 1)) = L) := Lib.hid (bit_step (HI.out.trans rfl) (by rw [HD.out]; simp [setF, ha, hs1]))
       have HNR : Hid ((R ++ ([] : List Lt)).length = R.length + 0) := Lib.hid (by simp)
       have HRC : Hid (rc Lt.cells (R ++ ([] : List Lt)) = rc Lt.cells R) := Lib.hid (by simp [rc])
       have h1b : (va == xa) = true := by simpa using h1
       have h1c : (va != xa) = false := by simpa using h1
       have h2b : (vt == xt) = true := by simpa using h2
       have h2c : (vt != xt) = false := by simpa using h2
       clear h1 h2
       rw [ha] at HL
       clear ha
       clear hs1 HI HD
       have H6V : Hid (∀ V, Below wr.heap.size wr V → Lt.Bx V w.heap.size ⟨xa, xt, xq⟩) := Lib.hid fun V hV => HV.out _ (hB.trans (hV.mono hB.size))
       have H6G : Hid (∀ V, Below wr.heap.size wr V → Lt.at ⟨va, vt, vq⟩ V b (o + k * 3)) := Lib.hid fun V hV => HG.out _ (hB.trans (hV.mono hB.size))
       unfold Lt.at at H6G HG
       simp only at H6G HG
       unfold Lt.val at HL
       simp only at HL
       go_wp2_with fail
       refine wp_region_held_drew (S := (fun V => Below wr.heap.size wr V)) (by kernel_rfl) (by exact (Below.refl _ _).drew) (fun hHeld => ?_)
       refine tkI 0 17 rfl (by intro w hSw; obtain ⟨q0, q1, q2⟩ := (H6V.out _ hSw).got; simp only at q0 q1 q2; obtain ⟨g0, g1, g2⟩ := H6G.out _ hSw; go_simp <;> with_reducible rfl) hHeld ?_; simp only [pqZ]
       refine tkI 1 18 rfl (by intro w hSw; obtain ⟨q0, q1, q2⟩ := (H6V.out _ hSw).got; simp only at q0 q1 q2; obtain ⟨g0, g1, g2⟩ := H6G.out _ hSw; go_simp <;> with_reducible rfl) hHeld ?_; simp only [pqZ]
       refine tkI 2 19 rfl (by intro w hSw; obtain ⟨q0, q1, q2⟩ := (H6V.out _ hSw).got; simp only at q0 q1 q2; obtain ⟨g0, g1, g2⟩ := H6G.out _ hSw; go_simp <;> with_reducible rfl) hHeld ?_; simp only [pqZ]
       refine tkI 3 20 rfl (by intro w hSw; obtain ⟨q0, q1, q2⟩ := (H6V.out _ hSw).got; simp only at q0 q1 q2; obtain ⟨g0, g1, g2⟩ := H6G.out _ hSw; go_simp <;> with_reducible rfl) hHeld ?_; simp only [pqZ]
       refine tkI 4 21 rfl (by intro w hSw; obtain ⟨q0, q1, q2⟩ := (H6V.out _ hSw).got; simp only at q0 q1 q2; obtain ⟨g0, g1, g2⟩ := H6G.out _ hSw; go_simp <;> with_reducible rfl) hHeld ?_; simp only [pqZ]
       refine tkI 5 22 rfl (by intro w hSw; obtain ⟨q0, q1, q2⟩ := (H6V.out _ hSw).got; simp only at q0 q1 q2; obtain ⟨g0, g1, g2⟩ := H6G.out _ hSw; go_simp <;> with_reducible rfl) hHeld ?_; simp only [pqZ]
       refine tkI 6 23 rfl (by intro w hSw; obtain ⟨q0, q1, q2⟩ := (H6V.out _ hSw).got; simp only at q0 q1 q2; obtain ⟨g0, g1, g2⟩ := H6G.out _ hSw; go_simp <;> with_reducible rfl) hHeld ?_; simp only [pqZ]
       refine tkI 7 24 rfl (by intro w hSw; obtain ⟨q0, q1, q2⟩ := (H6V.out _ hSw).got; simp only at q0 q1 q2; obtain ⟨g0, g1, g2⟩ := H6G.out _ hSw; go_simp <;> with_reducible rfl) hHeld ?_; simp only [pqZ]
       refine rdZ 8 25 rfl (by kernel_rfl) (fun K hK => ?_)
       go_simp
       refine (HL.out _).mono ?_
       rintro e y8 ⟨rfl, hk8⟩
       have hKeep := since_step hHeld hk8
       go_wp2_with fail
       refine hK.out _ _ (by (try dsimp only); exact hKeep) (fun hHeld => ?_); clear hK K hKeep; try simp only [pqZ]
       refine tkI 9 26 rfl (by intro w hSw; obtain ⟨q0, q1, q2⟩ := (H6V.out _ hSw).got; simp only at q0 q1 q2; obtain ⟨g0, g1, g2⟩ := H6G.out _ hSw; go_simp <;> with_reducible rfl) hHeld ?_; simp only [pqZ]
       refine tkI 10 27 rfl (by intro w hSw; obtain ⟨q0, q1, q2⟩ := (H6V.out _ hSw).got; simp only at q0 q1 q2; obtain ⟨g0, g1, g2⟩ := H6G.out _ hSw; go_simp <;> with_reducible rfl) hHeld ?_; simp only [pqZ]
       refine wpAnyH_done (by kernel_rfl) ?_ _
       have hB3 := hB.trans (hHeld.mono hB.size)
       have hown := own_below hown hHeld
       have hsz := hB3.size
       clear hHeld
       clear hk8
       obtain ⟨q0, q1, q2⟩ := (HV.out _ hB3).got
       simp only at q0 q1 q2
       clear q0 q1 q2
       go_wp2_with fail
       have hB4 := hB3
       clear hB3 hsz
       have H9V : Hid (∀ V, Below y8.heap.size y8 V → Lt.Bx V w.heap.size ⟨xa, xt, xq⟩) := Lib.hid fun V hV => HV.out _ (hB4.trans (hV.mono hB4.size))
       have H9G : Hid (∀ V, Below y8.heap.size y8 V → _) := Lib.hid fun V hV => HG.out _ (hB4.trans (hV.mono hB4.size))
       refine wp_region_held_drew (S := (fun V => Below y8.heap.size y8 V)) (by kernel_rfl) (by exact (Below.refl _ _).drew) (fun hHeld => ?_)
       refine tkI 0 32 rfl (by intro w hSw; obtain ⟨q0, q1, q2⟩ := (H9V.out _ hSw).got; simp only at q0 q1 q2; obtain ⟨g0, g1, g2⟩ := H9G.out _ hSw; go_simp <;> with_reducible rfl) hHeld ?_; simp only [pqZ]
       refine tkI 1 33 rfl (by intro w hSw; obtain ⟨q0, q1, q2⟩ := (H9V.out _ hSw).got; simp only at q0 q1 q2; obtain ⟨g0, g1, g2⟩ := H9G.out _ hSw; go_simp <;> with_reducible rfl) hHeld ?_; simp only [pqZ]
       refine tkI 2 34 rfl (by intro w hSw; obtain ⟨q0, q1, q2⟩ := (H9V.out _ hSw).got; simp only at q0 q1 q2; obtain ⟨g0, g1, g2⟩ := H9G.out _ hSw; go_simp <;> with_reducible rfl) hHeld ?_; simp only [pqZ]
       refine tkI 3 35 rfl (by intro w hSw; obtain ⟨q0, q1, q2⟩ := (H9V.out _ hSw).got; simp only at q0 q1 q2; obtain ⟨g0, g1, g2⟩ := H9G.out _ hSw; go_simp <;> with_reducible rfl) hHeld ?_; simp only [pqZ]
       refine tkI 4 36 rfl (by intro w hSw; obtain ⟨q0, q1, q2⟩ := (H9V.out _ hSw).got; simp only at q0 q1 q2; obtain ⟨g0, g1, g2⟩ := H9G.out _ hSw; go_simp <;> with_reducible rfl) hHeld ?_; simp only [pqZ]
       refine tkI 5 37 rfl (by intro w hSw; obtain ⟨q0, q1, q2⟩ := (H9V.out _ hSw).got; simp only at q0 q1 q2; obtain ⟨g0, g1, g2⟩ := H9G.out _ hSw; go_simp <;> with_reducible rfl) hHeld ?_; simp only [pqZ]
       refine tkI 6 38 rfl (by intro w hSw; obtain ⟨q0, q1, q2⟩ := (H9V.out _ hSw).got; simp only at q0 q1 q2; obtain ⟨g0, g1, g2⟩ := H9G.out _ hSw; go_simp <;> with_reducible rfl) hHeld ?_; simp only [pqZ]
       refine tkI 7 39 rfl (by intro w hSw; obtain ⟨q0, q1, q2⟩ := (H9V.out _ hSw).got; simp only at q0 q1 q2; obtain ⟨g0, g1, g2⟩ := H9G.out _ hSw; go_simp <;> with_reducible rfl) hHeld ?_; simp only [pqZ]
       refine tkI 8 40 rfl (by intro w hSw; obtain ⟨q0, q1, q2⟩ := (H9V.out _ hSw).got; simp only at q0 q1 q2; obtain ⟨g0, g1, g2⟩ := H9G.out _ hSw; go_simp <;> with_reducible rfl) hHeld ?_; simp only [pqZ]
       refine tkI 9 41 rfl (by intro w hSw; obtain ⟨q0, q1, q2⟩ := (H9V.out _ hSw).got; simp only at q0 q1 q2; obtain ⟨g0, g1, g2⟩ := H9G.out _ hSw; go_simp <;> with_reducible rfl) hHeld ?_; simp only [pqZ]
       refine tkI 10 42 rfl (by intro w hSw; obtain ⟨q0, q1, q2⟩ := (H9V.out _ hSw).got; simp only at q0 q1 q2; obtain ⟨g0, g1, g2⟩ := H9G.out _ hSw; go_simp <;> with_reducible rfl) hHeld ?_; simp only [pqZ]
       refine tkI 11 43 rfl (by intro w hSw; obtain ⟨q0, q1, q2⟩ := (H9V.out _ hSw).got; simp only at q0 q1 q2; obtain ⟨g0, g1, g2⟩ := H9G.out _ hSw; go_simp <;> with_reducible rfl) hHeld ?_; simp only [pqZ]
       refine tkI 12 44 rfl (by intro w hSw; obtain ⟨q0, q1, q2⟩ := (H9V.out _ hSw).got; simp only at q0 q1 q2; obtain ⟨g0, g1, g2⟩ := H9G.out _ hSw; go_simp <;> with_reducible rfl) hHeld ?_; simp only [pqZ]
       refine tkI 13 45 rfl (by intro w hSw; obtain ⟨q0, q1, q2⟩ := (H9V.out _ hSw).got; simp only at q0 q1 q2; obtain ⟨g0, g1, g2⟩ := H9G.out _ hSw; go_simp <;> with_reducible rfl) hHeld ?_; simp only [pqZ]
       refine tkI 14 46 rfl (by intro w hSw; obtain ⟨q0, q1, q2⟩ := (H9V.out _ hSw).got; simp only at q0 q1 q2; obtain ⟨g0, g1, g2⟩ := H9G.out _ hSw; go_simp <;> with_reducible rfl) hHeld ?_; simp only [pqZ]
       refine tkI 15 47 rfl (by intro w hSw; obtain ⟨q0, q1, q2⟩ := (H9V.out _ hSw).got; simp only at q0 q1 q2; obtain ⟨g0, g1, g2⟩ := H9G.out _ hSw; go_simp <;> with_reducible rfl) hHeld ?_; simp only [pqZ]
       refine tkI 16 48 rfl (by intro w hSw; obtain ⟨q0, q1, q2⟩ := (H9V.out _ hSw).got; simp only at q0 q1 q2; obtain ⟨g0, g1, g2⟩ := H9G.out _ hSw; go_simp <;> with_reducible rfl) hHeld ?_; simp only [pqZ]
       refine tkI 17 49 rfl (by intro w hSw; obtain ⟨q0, q1, q2⟩ := (H9V.out _ hSw).got; simp only at q0 q1 q2; obtain ⟨g0, g1, g2⟩ := H9G.out _ hSw; go_simp <;> with_reducible rfl) hHeld ?_; simp only [pqZ]
       refine wpAnyH_done (by kernel_rfl) ?_ _
       generalize y8.drew = Vn at *
       have hB5 := hB4.trans (hHeld.mono hB4.size)
       have hown := own_below hown hHeld
       have hsz := hB5.size
       clear hHeld
       go_wp2_with fail
       go_roundw
       case rel => exact ⟨k + 1, R ++ ([] : List Lt), false, A', c', by omega, by rw [HNR.out]; omega, by go_num, rfl, by rw [HNR.out, Nat.add_zero], by rw [HNR.out, HRC.out]; exact hown, HN.out, hB5⟩
       case measure => simp [intOf]; omega
      ·have hs1 : sameL xa xt ⟨va, vt, vq⟩ = false := by simp [sameL, h2]
       have HN : Hid ((R ++ ([⟨va, vt, vq⟩] : List Lt)) ++ setF ⟨xa, xt, xq⟩ false (l.drop (k + 1)) = L) := Lib.hid (bit_step (HI.out.trans rfl) (by rw [HD.out]; simp [setF, ha, hs1]))
       have HNR : Hid ((R ++ ([⟨va, vt, vq⟩] : List Lt)).length = R.length + 1) := Lib.hid (by simp)
       have HRC : Hid (rc Lt.cells (R ++ ([⟨va, vt, vq⟩] : List Lt)) = rc Lt.cells R ++ (⟨va, vt, vq⟩ : Lt).cells) := Lib.hid (by simp [rc])
       have h1b : (va == xa) = true := by simpa using h1
       have h1c : (va != xa) = false := by simpa using h1
       have h2b : (vt == xt) = false := by simpa using h2
       have h2c : (vt != xt) = true := by simpa using h2
       clear h1 h2
       rw [ha] at HL
       clear ha
       clear hs1 HI HD
       have H6V : Hid (∀ V, Below wr.heap.size wr V → Lt.Bx V w.heap.size ⟨xa, xt, xq⟩) := Lib.hid fun V hV => HV.out _ (hB.trans (hV.mono hB.size))
       have H6G : Hid (∀ V, Below wr.heap.size wr V → Lt.at ⟨va, vt, vq⟩ V b (o + k * 3)) := Lib.hid fun V hV => HG.out _ (hB.trans (hV.mono hB.size))
       unfold Lt.at at H6G HG
       simp only at H6G HG
       unfold Lt.val at HL
       simp only at HL
       go_wp2_with fail
       refine wp_region_held_drew (S := (fun V => Below wr.heap.size wr V)) (by kernel_rfl) (by exact (Below.refl _ _).drew) (fun hHeld => ?_)
       refine tkI 0 17 rfl (by intro w hSw; obtain ⟨q0, q1, q2⟩ := (H6V.out _ hSw).got; simp only at q0 q1 q2; obtain ⟨g0, g1, g2⟩ := H6G.out _ hSw; go_simp <;> with_reducible rfl) hHeld ?_; simp only [pqZ]
       refine tkI 1 18 rfl (by intro w hSw; obtain ⟨q0, q1, q2⟩ := (H6V.out _ hSw).got; simp only at q0 q1 q2; obtain ⟨g0, g1, g2⟩ := H6G.out _ hSw; go_simp <;> with_reducible rfl) hHeld ?_; simp only [pqZ]
       refine tkI 2 19 rfl (by intro w hSw; obtain ⟨q0, q1, q2⟩ := (H6V.out _ hSw).got; simp only at q0 q1 q2; obtain ⟨g0, g1, g2⟩ := H6G.out _ hSw; go_simp <;> with_reducible rfl) hHeld ?_; simp only [pqZ]
       refine tkI 3 20 rfl (by intro w hSw; obtain ⟨q0, q1, q2⟩ := (H6V.out _ hSw).got; simp only at q0 q1 q2; obtain ⟨g0, g1, g2⟩ := H6G.out _ hSw; go_simp <;> with_reducible rfl) hHeld ?_; simp only [pqZ]
       refine tkI 4 21 rfl (by intro w hSw; obtain ⟨q0, q1, q2⟩ := (H6V.out _ hSw).got; simp only at q0 q1 q2; obtain ⟨g0, g1, g2⟩ := H6G.out _ hSw; go_simp <;> with_reducible rfl) hHeld ?_; simp only [pqZ]
       refine tkI 5 22 rfl (by intro w hSw; obtain ⟨q0, q1, q2⟩ := (H6V.out _ hSw).got; simp only at q0 q1 q2; obtain ⟨g0, g1, g2⟩ := H6G.out _ hSw; go_simp <;> with_reducible rfl) hHeld ?_; simp only [pqZ]
       refine tkI 6 23 rfl (by intro w hSw; obtain ⟨q0, q1, q2⟩ := (H6V.out _ hSw).got; simp only at q0 q1 q2; obtain ⟨g0, g1, g2⟩ := H6G.out _ hSw; go_simp <;> with_reducible rfl) hHeld ?_; simp only [pqZ]
       refine tkI 7 24 rfl (by intro w hSw; obtain ⟨q0, q1, q2⟩ := (H6V.out _ hSw).got; simp only at q0 q1 q2; obtain ⟨g0, g1, g2⟩ := H6G.out _ hSw; go_simp <;> with_reducible rfl) hHeld ?_; simp only [pqZ]
       refine rdZ 8 25 rfl (by kernel_rfl) (fun K hK => ?_)
       go_simp
       refine (HL.out _).mono ?_
       rintro e y8 ⟨rfl, hk8⟩
       have hKeep := since_step hHeld hk8
       go_wp2_with fail
       refine hK.out _ _ (by (try dsimp only); exact hKeep) (fun hHeld => ?_); clear hK K hKeep; try simp only [pqZ]
       refine tkI 9 26 rfl (by intro w hSw; obtain ⟨q0, q1, q2⟩ := (H6V.out _ hSw).got; simp only at q0 q1 q2; obtain ⟨g0, g1, g2⟩ := H6G.out _ hSw; go_simp <;> with_reducible rfl) hHeld ?_; simp only [pqZ]
       refine tkI 10 27 rfl (by intro w hSw; obtain ⟨q0, q1, q2⟩ := (H6V.out _ hSw).got; simp only at q0 q1 q2; obtain ⟨g0, g1, g2⟩ := H6G.out _ hSw; go_simp <;> with_reducible rfl) hHeld ?_; simp only [pqZ]
       refine wpAnyH_done (by kernel_rfl) ?_ _
       have hB3 := hB.trans (hHeld.mono hB.size)
       have hown := own_below hown hHeld
       have hsz := hB3.size
       clear hHeld
       clear hk8
       obtain ⟨q0, q1, q2⟩ := (HV.out _ hB3).got
       simp only at q0 q1 q2
       clear q0 q1 q2
       go_wp2_with fail
       have hB4 := hB3
       clear hB3 hsz
       have H9V : Hid (∀ V, Below y8.heap.size y8 V → Lt.Bx V w.heap.size ⟨xa, xt, xq⟩) := Lib.hid fun V hV => HV.out _ (hB4.trans (hV.mono hB4.size))
       have H9G : Hid (∀ V, Below y8.heap.size y8 V → _) := Lib.hid fun V hV => HG.out _ (hB4.trans (hV.mono hB4.size))
       refine wp_region_held_drew (S := (fun V => Below y8.heap.size y8 V)) (by kernel_rfl) (by exact (Below.refl _ _).drew) (fun hHeld => ?_)
       refine tkI 0 32 rfl (by intro w hSw; obtain ⟨q0, q1, q2⟩ := (H9V.out _ hSw).got; simp only at q0 q1 q2; obtain ⟨g0, g1, g2⟩ := H9G.out _ hSw; go_simp <;> with_reducible rfl) hHeld ?_; simp only [pqZ]
       refine tkI 1 33 rfl (by intro w hSw; obtain ⟨q0, q1, q2⟩ := (H9V.out _ hSw).got; simp only at q0 q1 q2; obtain ⟨g0, g1, g2⟩ := H9G.out _ hSw; go_simp <;> with_reducible rfl) hHeld ?_; simp only [pqZ]
       refine tkI 2 34 rfl (by intro w hSw; obtain ⟨q0, q1, q2⟩ := (H9V.out _ hSw).got; simp only at q0 q1 q2; obtain ⟨g0, g1, g2⟩ := H9G.out _ hSw; go_simp <;> with_reducible rfl) hHeld ?_; simp only [pqZ]
       refine tkI 3 35 rfl (by intro w hSw; obtain ⟨q0, q1, q2⟩ := (H9V.out _ hSw).got; simp only at q0 q1 q2; obtain ⟨g0, g1, g2⟩ := H9G.out _ hSw; go_simp <;> with_reducible rfl) hHeld ?_; simp only [pqZ]
       refine tkI 4 36 rfl (by intro w hSw; obtain ⟨q0, q1, q2⟩ := (H9V.out _ hSw).got; simp only at q0 q1 q2; obtain ⟨g0, g1, g2⟩ := H9G.out _ hSw; go_simp <;> with_reducible rfl) hHeld ?_; simp only [pqZ]
       refine tkI 5 37 rfl (by intro w hSw; obtain ⟨q0, q1, q2⟩ := (H9V.out _ hSw).got; simp only at q0 q1 q2; obtain ⟨g0, g1, g2⟩ := H9G.out _ hSw; go_simp <;> with_reducible rfl) hHeld ?_; simp only [pqZ]
       refine tkI 6 38 rfl (by intro w hSw; obtain ⟨q0, q1, q2⟩ := (H9V.out _ hSw).got; simp only at q0 q1 q2; obtain ⟨g0, g1, g2⟩ := H9G.out _ hSw; go_simp <;> with_reducible rfl) hHeld ?_; simp only [pqZ]
       refine tkI 7 39 rfl (by intro w hSw; obtain ⟨q0, q1, q2⟩ := (H9V.out _ hSw).got; simp only at q0 q1 q2; obtain ⟨g0, g1, g2⟩ := H9G.out _ hSw; go_simp <;> with_reducible rfl) hHeld ?_; simp only [pqZ]
       refine tkI 8 40 rfl (by intro w hSw; obtain ⟨q0, q1, q2⟩ := (H9V.out _ hSw).got; simp only at q0 q1 q2; obtain ⟨g0, g1, g2⟩ := H9G.out _ hSw; go_simp <;> with_reducible rfl) hHeld ?_; simp only [pqZ]
       refine tkI 9 41 rfl (by intro w hSw; obtain ⟨q0, q1, q2⟩ := (H9V.out _ hSw).got; simp only at q0 q1 q2; obtain ⟨g0, g1, g2⟩ := H9G.out _ hSw; go_simp <;> with_reducible rfl) hHeld ?_; simp only [pqZ]
       refine tkI 10 42 rfl (by intro w hSw; obtain ⟨q0, q1, q2⟩ := (H9V.out _ hSw).got; simp only at q0 q1 q2; obtain ⟨g0, g1, g2⟩ := H9G.out _ hSw; go_simp <;> with_reducible rfl) hHeld ?_; simp only [pqZ]
       refine tkI 11 43 rfl (by intro w hSw; obtain ⟨q0, q1, q2⟩ := (H9V.out _ hSw).got; simp only at q0 q1 q2; obtain ⟨g0, g1, g2⟩ := H9G.out _ hSw; go_simp <;> with_reducible rfl) hHeld ?_; simp only [pqZ]
       refine tkI 12 44 rfl (by intro w hSw; obtain ⟨q0, q1, q2⟩ := (H9V.out _ hSw).got; simp only at q0 q1 q2; obtain ⟨g0, g1, g2⟩ := H9G.out _ hSw; go_simp <;> with_reducible rfl) hHeld ?_; simp only [pqZ]
       refine tkI 13 45 rfl (by intro w hSw; obtain ⟨q0, q1, q2⟩ := (H9V.out _ hSw).got; simp only at q0 q1 q2; obtain ⟨g0, g1, g2⟩ := H9G.out _ hSw; go_simp <;> with_reducible rfl) hHeld ?_; simp only [pqZ]
       refine tkI 14 46 rfl (by intro w hSw; obtain ⟨q0, q1, q2⟩ := (H9V.out _ hSw).got; simp only at q0 q1 q2; obtain ⟨g0, g1, g2⟩ := H9G.out _ hSw; go_simp <;> with_reducible rfl) hHeld ?_; simp only [pqZ]
       refine tkI 15 47 rfl (by intro w hSw; obtain ⟨q0, q1, q2⟩ := (H9V.out _ hSw).got; simp only at q0 q1 q2; obtain ⟨g0, g1, g2⟩ := H9G.out _ hSw; go_simp <;> with_reducible rfl) hHeld ?_; simp only [pqZ]
       refine tkI 16 48 rfl (by intro w hSw; obtain ⟨q0, q1, q2⟩ := (H9V.out _ hSw).got; simp only at q0 q1 q2; obtain ⟨g0, g1, g2⟩ := H9G.out _ hSw; go_simp <;> with_reducible rfl) hHeld ?_; simp only [pqZ]
       refine tkI 17 49 rfl (by intro w hSw; obtain ⟨q0, q1, q2⟩ := (H9V.out _ hSw).got; simp only at q0 q1 q2; obtain ⟨g0, g1, g2⟩ := H9G.out _ hSw; go_simp <;> with_reducible rfl) hHeld ?_; simp only [pqZ]
       refine wpAnyH_done (by kernel_rfl) ?_ _
       generalize y8.drew = Vn at *
       have hB5 := hB4.trans (hHeld.mono hB4.size)
       have hown := own_below hown hHeld
       have hsz := hB5.size
       clear hHeld
       obtain ⟨g0, g1, g2⟩ := HG.out _ hB5
       go_wp2_with (first
        | (at_builtin; refine wpList_app rfl (.tmp 50) (.tmp 55) rfl ELt rfl rfl (hown.alloc _) (m := 1) (news := (⟨va, vt, vq⟩ : Lt).cells) rfl (Sl.new_ _ _ _) (Lt.one _) (by unfold maxLen; omega) (by omega) (by simp only [World.size_alloc]; omega) ?_; intro A5 c5 w5 hown5 hg5 hb5)
        | fail)
       have hB6 := (since_alloc hB5 (.cells #[.int .i64 va, .int .i64 vt, .int .i64 vq] 33)).trans hb5
       have hown := hown5
       clear hown5 hg5 hb5
       go_roundw
       case rel => exact ⟨k + 1, R ++ ([⟨va, vt, vq⟩] : List Lt), false, A5, c5, by omega, by rw [HNR.out]; omega, by go_num, rfl, by rw [HNR.out], by rw [HNR.out, HRC.out]; exact hown, HN.out, hB6⟩
       case measure => simp [intOf]; omega
     ·have hs1 : sameL xa xt ⟨va, vt, vq⟩ = false := by simp [sameL, h1]
      have HN : Hid ((R ++ ([⟨va, vt, vq⟩] : List Lt)) ++ setF ⟨xa, xt, xq⟩ false (l.drop (k + 1)) = L) := Lib.hid (bit_step (HI.out.trans rfl) (by rw [HD.out]; simp [setF, ha, hs1]))
      have HNR : Hid ((R ++ ([⟨va, vt, vq⟩] : List Lt)).length = R.length + 1) := Lib.hid (by simp)
      have HRC : Hid (rc Lt.cells (R ++ ([⟨va, vt, vq⟩] : List Lt)) = rc Lt.cells R ++ (⟨va, vt, vq⟩ : Lt).cells) := Lib.hid (by simp [rc])
      have h1b : (va == xa) = false := by simpa using h1
      have h1c : (va != xa) = true := by simpa using h1
      clear h1
      rw [ha] at HL
      clear ha
      clear hs1 HI HD
      have H6V : Hid (∀ V, Below wr.heap.size wr V → Lt.Bx V w.heap.size ⟨xa, xt, xq⟩) := Lib.hid fun V hV => HV.out _ (hB.trans (hV.mono hB.size))
      have H6G : Hid (∀ V, Below wr.heap.size wr V → Lt.at ⟨va, vt, vq⟩ V b (o + k * 3)) := Lib.hid fun V hV => HG.out _ (hB.trans (hV.mono hB.size))
      unfold Lt.at at H6G HG
      simp only at H6G HG
      unfold Lt.val at HL
      simp only at HL
      go_wp2_with fail
      refine wp_region_held_drew (S := (fun V => Below wr.heap.size wr V)) (by kernel_rfl) (by exact (Below.refl _ _).drew) (fun hHeld => ?_)
      refine tkI 0 17 rfl (by intro w hSw; obtain ⟨q0, q1, q2⟩ := (H6V.out _ hSw).got; simp only at q0 q1 q2; obtain ⟨g0, g1, g2⟩ := H6G.out _ hSw; go_simp <;> with_reducible rfl) hHeld ?_; simp only [pqZ]
      refine tkI 1 18 rfl (by intro w hSw; obtain ⟨q0, q1, q2⟩ := (H6V.out _ hSw).got; simp only at q0 q1 q2; obtain ⟨g0, g1, g2⟩ := H6G.out _ hSw; go_simp <;> with_reducible rfl) hHeld ?_; simp only [pqZ]
      refine tkI 2 19 rfl (by intro w hSw; obtain ⟨q0, q1, q2⟩ := (H6V.out _ hSw).got; simp only at q0 q1 q2; obtain ⟨g0, g1, g2⟩ := H6G.out _ hSw; go_simp <;> with_reducible rfl) hHeld ?_; simp only [pqZ]
      refine tkI 3 20 rfl (by intro w hSw; obtain ⟨q0, q1, q2⟩ := (H6V.out _ hSw).got; simp only at q0 q1 q2; obtain ⟨g0, g1, g2⟩ := H6G.out _ hSw; go_simp <;> with_reducible rfl) hHeld ?_; simp only [pqZ]
      refine tkI 4 21 rfl (by intro w hSw; obtain ⟨q0, q1, q2⟩ := (H6V.out _ hSw).got; simp only at q0 q1 q2; obtain ⟨g0, g1, g2⟩ := H6G.out _ hSw; go_simp <;> with_reducible rfl) hHeld ?_; simp only [pqZ]
      refine tkI 5 22 rfl (by intro w hSw; obtain ⟨q0, q1, q2⟩ := (H6V.out _ hSw).got; simp only at q0 q1 q2; obtain ⟨g0, g1, g2⟩ := H6G.out _ hSw; go_simp <;> with_reducible rfl) hHeld ?_; simp only [pqZ]
      refine tkI 6 23 rfl (by intro w hSw; obtain ⟨q0, q1, q2⟩ := (H6V.out _ hSw).got; simp only at q0 q1 q2; obtain ⟨g0, g1, g2⟩ := H6G.out _ hSw; go_simp <;> with_reducible rfl) hHeld ?_; simp only [pqZ]
      refine tkI 7 24 rfl (by intro w hSw; obtain ⟨q0, q1, q2⟩ := (H6V.out _ hSw).got; simp only at q0 q1 q2; obtain ⟨g0, g1, g2⟩ := H6G.out _ hSw; go_simp <;> with_reducible rfl) hHeld ?_; simp only [pqZ]
      refine rdZ 8 25 rfl (by kernel_rfl) (fun K hK => ?_)
      go_simp
      refine (HL.out _).mono ?_
      rintro e y8 ⟨rfl, hk8⟩
      have hKeep := since_step hHeld hk8
      go_wp2_with fail
      refine hK.out _ _ (by (try dsimp only); exact hKeep) (fun hHeld => ?_); clear hK K hKeep; try simp only [pqZ]
      refine tkI 9 26 rfl (by intro w hSw; obtain ⟨q0, q1, q2⟩ := (H6V.out _ hSw).got; simp only at q0 q1 q2; obtain ⟨g0, g1, g2⟩ := H6G.out _ hSw; go_simp <;> with_reducible rfl) hHeld ?_; simp only [pqZ]
      refine tkI 10 27 rfl (by intro w hSw; obtain ⟨q0, q1, q2⟩ := (H6V.out _ hSw).got; simp only at q0 q1 q2; obtain ⟨g0, g1, g2⟩ := H6G.out _ hSw; go_simp <;> with_reducible rfl) hHeld ?_; simp only [pqZ]
      refine wpAnyH_done (by kernel_rfl) ?_ _
      have hB3 := hB.trans (hHeld.mono hB.size)
      have hown := own_below hown hHeld
      have hsz := hB3.size
      clear hHeld
      clear hk8
      obtain ⟨q0, q1, q2⟩ := (HV.out _ hB3).got
      simp only at q0 q1 q2
      clear q0 q1 q2
      go_wp2_with fail
      have hB4 := hB3
      clear hB3 hsz
      have H9V : Hid (∀ V, Below y8.heap.size y8 V → Lt.Bx V w.heap.size ⟨xa, xt, xq⟩) := Lib.hid fun V hV => HV.out _ (hB4.trans (hV.mono hB4.size))
      have H9G : Hid (∀ V, Below y8.heap.size y8 V → _) := Lib.hid fun V hV => HG.out _ (hB4.trans (hV.mono hB4.size))
      refine wp_region_held_drew (S := (fun V => Below y8.heap.size y8 V)) (by kernel_rfl) (by exact (Below.refl _ _).drew) (fun hHeld => ?_)
      refine tkI 0 32 rfl (by intro w hSw; obtain ⟨q0, q1, q2⟩ := (H9V.out _ hSw).got; simp only at q0 q1 q2; obtain ⟨g0, g1, g2⟩ := H9G.out _ hSw; go_simp <;> with_reducible rfl) hHeld ?_; simp only [pqZ]
      refine tkI 1 33 rfl (by intro w hSw; obtain ⟨q0, q1, q2⟩ := (H9V.out _ hSw).got; simp only at q0 q1 q2; obtain ⟨g0, g1, g2⟩ := H9G.out _ hSw; go_simp <;> with_reducible rfl) hHeld ?_; simp only [pqZ]
      refine tkI 2 34 rfl (by intro w hSw; obtain ⟨q0, q1, q2⟩ := (H9V.out _ hSw).got; simp only at q0 q1 q2; obtain ⟨g0, g1, g2⟩ := H9G.out _ hSw; go_simp <;> with_reducible rfl) hHeld ?_; simp only [pqZ]
      refine tkI 3 35 rfl (by intro w hSw; obtain ⟨q0, q1, q2⟩ := (H9V.out _ hSw).got; simp only at q0 q1 q2; obtain ⟨g0, g1, g2⟩ := H9G.out _ hSw; go_simp <;> with_reducible rfl) hHeld ?_; simp only [pqZ]
      refine tkI 4 36 rfl (by intro w hSw; obtain ⟨q0, q1, q2⟩ := (H9V.out _ hSw).got; simp only at q0 q1 q2; obtain ⟨g0, g1, g2⟩ := H9G.out _ hSw; go_simp <;> with_reducible rfl) hHeld ?_; simp only [pqZ]
      refine tkI 5 37 rfl (by intro w hSw; obtain ⟨q0, q1, q2⟩ := (H9V.out _ hSw).got; simp only at q0 q1 q2; obtain ⟨g0, g1, g2⟩ := H9G.out _ hSw; go_simp <;> with_reducible rfl) hHeld ?_; simp only [pqZ]
      refine tkI 6 38 rfl (by intro w hSw; obtain ⟨q0, q1, q2⟩ := (H9V.out _ hSw).got; simp only at q0 q1 q2; obtain ⟨g0, g1, g2⟩ := H9G.out _ hSw; go_simp <;> with_reducible rfl) hHeld ?_; simp only [pqZ]
      refine tkI 7 39 rfl (by intro w hSw; obtain ⟨q0, q1, q2⟩ := (H9V.out _ hSw).got; simp only at q0 q1 q2; obtain ⟨g0, g1, g2⟩ := H9G.out _ hSw; go_simp <;> with_reducible rfl) hHeld ?_; simp only [pqZ]
      refine tkI 8 40 rfl (by intro w hSw; obtain ⟨q0, q1, q2⟩ := (H9V.out _ hSw).got; simp only at q0 q1 q2; obtain ⟨g0, g1, g2⟩ := H9G.out _ hSw; go_simp <;> with_reducible rfl) hHeld ?_; simp only [pqZ]
      refine tkO 9 41 rfl (by kernel_rfl) (by rfl) hHeld ?_; simp only [pqZ]
      refine tkO 10 42 rfl (by kernel_rfl) (by rfl) hHeld ?_; simp only [pqZ]
      refine tkO 11 43 rfl (by kernel_rfl) (by rfl) hHeld ?_; simp only [pqZ]
      refine tkO 12 44 rfl (by kernel_rfl) (by rfl) hHeld ?_; simp only [pqZ]
      refine tkO 13 45 rfl (by kernel_rfl) (by rfl) hHeld ?_; simp only [pqZ]
      refine tkO 14 46 rfl (by kernel_rfl) (by rfl) hHeld ?_; simp only [pqZ]
      refine tkO 15 47 rfl (by kernel_rfl) (by rfl) hHeld ?_; simp only [pqZ]
      refine tkO 16 48 rfl (by kernel_rfl) (by rfl) hHeld ?_; simp only [pqZ]
      refine tkI 17 49 rfl (by intro w hSw; obtain ⟨q0, q1, q2⟩ := (H9V.out _ hSw).got; simp only at q0 q1 q2; obtain ⟨g0, g1, g2⟩ := H9G.out _ hSw; go_simp <;> with_reducible rfl) hHeld ?_; simp only [pqZ]
      refine wpAnyH_done (by kernel_rfl) ?_ _
      generalize y8.drew = Vn at *
      have hB5 := hB4.trans (hHeld.mono hB4.size)
      have hown := own_below hown hHeld
      have hsz := hB5.size
      clear hHeld
      obtain ⟨g0, g1, g2⟩ := HG.out _ hB5
      go_wp2_with (first
       | (at_builtin; refine wpList_app rfl (.tmp 50) (.tmp 55) rfl ELt rfl rfl (hown.alloc _) (m := 1) (news := (⟨va, vt, vq⟩ : Lt).cells) rfl (Sl.new_ _ _ _) (Lt.one _) (by unfold maxLen; omega) (by omega) (by simp only [World.size_alloc]; omega) ?_; intro A5 c5 w5 hown5 hg5 hb5)
       | fail)
      have hB6 := (since_alloc hB5 (.cells #[.int .i64 va, .int .i64 vt, .int .i64 vq] 33)).trans hb5
      have hown := hown5
      clear hown5 hg5 hb5
      go_roundw
      case rel => exact ⟨k + 1, R ++ ([⟨va, vt, vq⟩] : List Lt), false, A5, c5, by omega, by rw [HNR.out]; omega, by go_num, rfl, by rw [HNR.out], by rw [HNR.out, HRC.out]; exact hown, HN.out, hB6⟩
      case measure => simp [intOf]; omega
    | false =>
     by_cases h1 : va = xa
     ·by_cases h2 : vt = xt
      ·have hs1 : sameL xa xt ⟨va, vt, vq⟩ = true := by simp [sameL, h1, h2]
       have HN : Hid ((R ++ ([⟨xa, xt, xq⟩] : List Lt)) ++ setF ⟨xa, xt, xq⟩ true (l.drop (k + 1)) = L) := Lib.hid (bit_step (HI.out.trans rfl) (by rw [HD.out]; simp [setF, ha, hs1]))
       have HNR : Hid ((R ++ ([⟨xa, xt, xq⟩] : List Lt)).length = R.length + 1) := Lib.hid (by simp)
       have HRC : Hid (rc Lt.cells (R ++ ([⟨xa, xt, xq⟩] : List Lt)) = rc Lt.cells R ++ (⟨xa, xt, xq⟩ : Lt).cells) := Lib.hid (by simp [rc])
       have h1b : (va == xa) = true := by simpa using h1
       have h1c : (va != xa) = false := by simpa using h1
       have h2b : (vt == xt) = true := by simpa using h2
       have h2c : (vt != xt) = false := by simpa using h2
       clear h1 h2
       rw [ha] at HL
       clear ha
       clear hs1 HI HD
       have H6V : Hid (∀ V, Below wr.heap.size wr V → Lt.Bx V w.heap.size ⟨xa, xt, xq⟩) := Lib.hid fun V hV => HV.out _ (hB.trans (hV.mono hB.size))
       have H6G : Hid (∀ V, Below wr.heap.size wr V → Lt.at ⟨va, vt, vq⟩ V b (o + k * 3)) := Lib.hid fun V hV => HG.out _ (hB.trans (hV.mono hB.size))
       unfold Lt.at at H6G HG
       simp only at H6G HG
       unfold Lt.val at HL
       simp only at HL
       go_wp2_with fail
       refine wp_region_held_drew (S := (fun V => Below wr.heap.size wr V)) (by kernel_rfl) (by exact (Below.refl _ _).drew) (fun hHeld => ?_)
       refine tkI 0 17 rfl (by intro w hSw; obtain ⟨q0, q1, q2⟩ := (H6V.out _ hSw).got; simp only at q0 q1 q2; obtain ⟨g0, g1, g2⟩ := H6G.out _ hSw; go_simp <;> with_reducible rfl) hHeld ?_; simp only [pqZ]
       refine tkI 1 18 rfl (by intro w hSw; obtain ⟨q0, q1, q2⟩ := (H6V.out _ hSw).got; simp only at q0 q1 q2; obtain ⟨g0, g1, g2⟩ := H6G.out _ hSw; go_simp <;> with_reducible rfl) hHeld ?_; simp only [pqZ]
       refine tkI 2 19 rfl (by intro w hSw; obtain ⟨q0, q1, q2⟩ := (H6V.out _ hSw).got; simp only at q0 q1 q2; obtain ⟨g0, g1, g2⟩ := H6G.out _ hSw; go_simp <;> with_reducible rfl) hHeld ?_; simp only [pqZ]
       refine tkI 3 20 rfl (by intro w hSw; obtain ⟨q0, q1, q2⟩ := (H6V.out _ hSw).got; simp only at q0 q1 q2; obtain ⟨g0, g1, g2⟩ := H6G.out _ hSw; go_simp <;> with_reducible rfl) hHeld ?_; simp only [pqZ]
       refine tkI 4 21 rfl (by intro w hSw; obtain ⟨q0, q1, q2⟩ := (H6V.out _ hSw).got; simp only at q0 q1 q2; obtain ⟨g0, g1, g2⟩ := H6G.out _ hSw; go_simp <;> with_reducible rfl) hHeld ?_; simp only [pqZ]
       refine tkI 5 22 rfl (by intro w hSw; obtain ⟨q0, q1, q2⟩ := (H6V.out _ hSw).got; simp only at q0 q1 q2; obtain ⟨g0, g1, g2⟩ := H6G.out _ hSw; go_simp <;> with_reducible rfl) hHeld ?_; simp only [pqZ]
       refine tkI 6 23 rfl (by intro w hSw; obtain ⟨q0, q1, q2⟩ := (H6V.out _ hSw).got; simp only at q0 q1 q2; obtain ⟨g0, g1, g2⟩ := H6G.out _ hSw; go_simp <;> with_reducible rfl) hHeld ?_; simp only [pqZ]
       refine tkI 7 24 rfl (by intro w hSw; obtain ⟨q0, q1, q2⟩ := (H6V.out _ hSw).got; simp only at q0 q1 q2; obtain ⟨g0, g1, g2⟩ := H6G.out _ hSw; go_simp <;> with_reducible rfl) hHeld ?_; simp only [pqZ]
       refine rdZ 8 25 rfl (by kernel_rfl) (fun K hK => ?_)
       go_simp
       refine (HL.out _).mono ?_
       rintro e y8 ⟨rfl, hk8⟩
       have hKeep := since_step hHeld hk8
       go_wp2_with fail
       refine hK.out _ _ (by (try dsimp only); exact hKeep) (fun hHeld => ?_); clear hK K hKeep; try simp only [pqZ]
       refine tkI 9 26 rfl (by intro w hSw; obtain ⟨q0, q1, q2⟩ := (H6V.out _ hSw).got; simp only at q0 q1 q2; obtain ⟨g0, g1, g2⟩ := H6G.out _ hSw; go_simp <;> with_reducible rfl) hHeld ?_; simp only [pqZ]
       refine tkI 10 27 rfl (by intro w hSw; obtain ⟨q0, q1, q2⟩ := (H6V.out _ hSw).got; simp only at q0 q1 q2; obtain ⟨g0, g1, g2⟩ := H6G.out _ hSw; go_simp <;> with_reducible rfl) hHeld ?_; simp only [pqZ]
       refine wpAnyH_done (by kernel_rfl) ?_ _
       have hB3 := hB.trans (hHeld.mono hB.size)
       have hown := own_below hown hHeld
       have hsz := hB3.size
       clear hHeld
       clear hk8
       obtain ⟨q0, q1, q2⟩ := (HV.out _ hB3).got
       simp only at q0 q1 q2
       go_wp2_with (first
        | (at_builtin; refine wpList_app rfl (.tmp 28) (.tmp 30) rfl ELt rfl rfl (hown.alloc _) (m := 1) (news := (⟨xa, xt, xq⟩ : Lt).cells) rfl (Sl.new_ _ _ _) (Lt.one _) (by unfold maxLen; omega) (by omega) (by simp only [World.size_alloc]; omega) ?_; intro A2 c2 w2 hown2 hg2 hb2)
        | fail)
       have hB4 := (since_alloc hB3 (.cells #[.int .i64 xa, .int .i64 xt, .int .i64 xq] 33)).trans hb2
       have hown := hown2
       clear hown2 hg2 hb2 q0 q1 q2 hB3 hsz
       have H9V : Hid (∀ V, Below w2.heap.size w2 V → Lt.Bx V w.heap.size ⟨xa, xt, xq⟩) := Lib.hid fun V hV => HV.out _ (hB4.trans (hV.mono hB4.size))
       have H9G : Hid (∀ V, Below w2.heap.size w2 V → _) := Lib.hid fun V hV => HG.out _ (hB4.trans (hV.mono hB4.size))
       refine wp_region_held_drew (S := (fun V => Below w2.heap.size w2 V)) (by kernel_rfl) (by exact (Below.refl _ _).drew) (fun hHeld => ?_)
       refine tkI 0 32 rfl (by intro w hSw; obtain ⟨q0, q1, q2⟩ := (H9V.out _ hSw).got; simp only at q0 q1 q2; obtain ⟨g0, g1, g2⟩ := H9G.out _ hSw; go_simp <;> with_reducible rfl) hHeld ?_; simp only [pqZ]
       refine tkI 1 33 rfl (by intro w hSw; obtain ⟨q0, q1, q2⟩ := (H9V.out _ hSw).got; simp only at q0 q1 q2; obtain ⟨g0, g1, g2⟩ := H9G.out _ hSw; go_simp <;> with_reducible rfl) hHeld ?_; simp only [pqZ]
       refine tkI 2 34 rfl (by intro w hSw; obtain ⟨q0, q1, q2⟩ := (H9V.out _ hSw).got; simp only at q0 q1 q2; obtain ⟨g0, g1, g2⟩ := H9G.out _ hSw; go_simp <;> with_reducible rfl) hHeld ?_; simp only [pqZ]
       refine tkI 3 35 rfl (by intro w hSw; obtain ⟨q0, q1, q2⟩ := (H9V.out _ hSw).got; simp only at q0 q1 q2; obtain ⟨g0, g1, g2⟩ := H9G.out _ hSw; go_simp <;> with_reducible rfl) hHeld ?_; simp only [pqZ]
       refine tkI 4 36 rfl (by intro w hSw; obtain ⟨q0, q1, q2⟩ := (H9V.out _ hSw).got; simp only at q0 q1 q2; obtain ⟨g0, g1, g2⟩ := H9G.out _ hSw; go_simp <;> with_reducible rfl) hHeld ?_; simp only [pqZ]
       refine tkI 5 37 rfl (by intro w hSw; obtain ⟨q0, q1, q2⟩ := (H9V.out _ hSw).got; simp only at q0 q1 q2; obtain ⟨g0, g1, g2⟩ := H9G.out _ hSw; go_simp <;> with_reducible rfl) hHeld ?_; simp only [pqZ]
       refine tkI 6 38 rfl (by intro w hSw; obtain ⟨q0, q1, q2⟩ := (H9V.out _ hSw).got; simp only at q0 q1 q2; obtain ⟨g0, g1, g2⟩ := H9G.out _ hSw; go_simp <;> with_reducible rfl) hHeld ?_; simp only [pqZ]
       refine tkI 7 39 rfl (by intro w hSw; obtain ⟨q0, q1, q2⟩ := (H9V.out _ hSw).got; simp only at q0 q1 q2; obtain ⟨g0, g1, g2⟩ := H9G.out _ hSw; go_simp <;> with_reducible rfl) hHeld ?_; simp only [pqZ]
       refine tkI 8 40 rfl (by intro w hSw; obtain ⟨q0, q1, q2⟩ := (H9V.out _ hSw).got; simp only at q0 q1 q2; obtain ⟨g0, g1, g2⟩ := H9G.out _ hSw; go_simp <;> with_reducible rfl) hHeld ?_; simp only [pqZ]
       refine tkI 9 41 rfl (by intro w hSw; obtain ⟨q0, q1, q2⟩ := (H9V.out _ hSw).got; simp only at q0 q1 q2; obtain ⟨g0, g1, g2⟩ := H9G.out _ hSw; go_simp <;> with_reducible rfl) hHeld ?_; simp only [pqZ]
       refine tkI 10 42 rfl (by intro w hSw; obtain ⟨q0, q1, q2⟩ := (H9V.out _ hSw).got; simp only at q0 q1 q2; obtain ⟨g0, g1, g2⟩ := H9G.out _ hSw; go_simp <;> with_reducible rfl) hHeld ?_; simp only [pqZ]
       refine tkI 11 43 rfl (by intro w hSw; obtain ⟨q0, q1, q2⟩ := (H9V.out _ hSw).got; simp only at q0 q1 q2; obtain ⟨g0, g1, g2⟩ := H9G.out _ hSw; go_simp <;> with_reducible rfl) hHeld ?_; simp only [pqZ]
       refine tkI 12 44 rfl (by intro w hSw; obtain ⟨q0, q1, q2⟩ := (H9V.out _ hSw).got; simp only at q0 q1 q2; obtain ⟨g0, g1, g2⟩ := H9G.out _ hSw; go_simp <;> with_reducible rfl) hHeld ?_; simp only [pqZ]
       refine tkI 13 45 rfl (by intro w hSw; obtain ⟨q0, q1, q2⟩ := (H9V.out _ hSw).got; simp only at q0 q1 q2; obtain ⟨g0, g1, g2⟩ := H9G.out _ hSw; go_simp <;> with_reducible rfl) hHeld ?_; simp only [pqZ]
       refine tkI 14 46 rfl (by intro w hSw; obtain ⟨q0, q1, q2⟩ := (H9V.out _ hSw).got; simp only at q0 q1 q2; obtain ⟨g0, g1, g2⟩ := H9G.out _ hSw; go_simp <;> with_reducible rfl) hHeld ?_; simp only [pqZ]
       refine tkI 15 47 rfl (by intro w hSw; obtain ⟨q0, q1, q2⟩ := (H9V.out _ hSw).got; simp only at q0 q1 q2; obtain ⟨g0, g1, g2⟩ := H9G.out _ hSw; go_simp <;> with_reducible rfl) hHeld ?_; simp only [pqZ]
       refine tkI 16 48 rfl (by intro w hSw; obtain ⟨q0, q1, q2⟩ := (H9V.out _ hSw).got; simp only at q0 q1 q2; obtain ⟨g0, g1, g2⟩ := H9G.out _ hSw; go_simp <;> with_reducible rfl) hHeld ?_; simp only [pqZ]
       refine tkI 17 49 rfl (by intro w hSw; obtain ⟨q0, q1, q2⟩ := (H9V.out _ hSw).got; simp only at q0 q1 q2; obtain ⟨g0, g1, g2⟩ := H9G.out _ hSw; go_simp <;> with_reducible rfl) hHeld ?_; simp only [pqZ]
       refine wpAnyH_done (by kernel_rfl) ?_ _
       generalize w2.drew = Vn at *
       have hB5 := hB4.trans (hHeld.mono hB4.size)
       have hown := own_below hown hHeld
       have hsz := hB5.size
       clear hHeld
       go_wp2_with fail
       go_roundw
       case rel => exact ⟨k + 1, R ++ ([⟨xa, xt, xq⟩] : List Lt), true, A2, c2, by omega, by rw [HNR.out]; omega, by go_num, rfl, by rw [HNR.out], by rw [HNR.out, HRC.out]; exact hown, HN.out, hB5⟩
       case measure => simp [intOf]; omega
      ·have hs1 : sameL xa xt ⟨va, vt, vq⟩ = false := by simp [sameL, h2]
       have HN : Hid ((R ++ ([⟨xa, xt, xq⟩, ⟨va, vt, vq⟩] : List Lt)) ++ setF ⟨xa, xt, xq⟩ true (l.drop (k + 1)) = L) := Lib.hid (bit_step (HI.out.trans rfl) (by rw [HD.out]; simp [setF, ha, hs1]))
       have HNR : Hid ((R ++ ([⟨xa, xt, xq⟩, ⟨va, vt, vq⟩] : List Lt)).length = R.length + 2) := Lib.hid (by simp)
       have HRC : Hid (rc Lt.cells (R ++ ([⟨xa, xt, xq⟩, ⟨va, vt, vq⟩] : List Lt)) = rc Lt.cells R ++ (⟨xa, xt, xq⟩ : Lt).cells ++ (⟨va, vt, vq⟩ : Lt).cells) := Lib.hid (by simp [rc])
       have h1b : (va == xa) = true := by simpa using h1
       have h1c : (va != xa) = false := by simpa using h1
       have h2b : (vt == xt) = false := by simpa using h2
       have h2c : (vt != xt) = true := by simpa using h2
       clear h1 h2
       rw [ha] at HL
       clear ha
       clear hs1 HI HD
       have H6V : Hid (∀ V, Below wr.heap.size wr V → Lt.Bx V w.heap.size ⟨xa, xt, xq⟩) := Lib.hid fun V hV => HV.out _ (hB.trans (hV.mono hB.size))
       have H6G : Hid (∀ V, Below wr.heap.size wr V → Lt.at ⟨va, vt, vq⟩ V b (o + k * 3)) := Lib.hid fun V hV => HG.out _ (hB.trans (hV.mono hB.size))
       unfold Lt.at at H6G HG
       simp only at H6G HG
       unfold Lt.val at HL
       simp only at HL
       go_wp2_with fail
       refine wp_region_held_drew (S := (fun V => Below wr.heap.size wr V)) (by kernel_rfl) (by exact (Below.refl _ _).drew) (fun hHeld => ?_)
       refine tkI 0 17 rfl (by intro w hSw; obtain ⟨q0, q1, q2⟩ := (H6V.out _ hSw).got; simp only at q0 q1 q2; obtain ⟨g0, g1, g2⟩ := H6G.out _ hSw; go_simp <;> with_reducible rfl) hHeld ?_; simp only [pqZ]
       refine tkI 1 18 rfl (by intro w hSw; obtain ⟨q0, q1, q2⟩ := (H6V.out _ hSw).got; simp only at q0 q1 q2; obtain ⟨g0, g1, g2⟩ := H6G.out _ hSw; go_simp <;> with_reducible rfl) hHeld ?_; simp only [pqZ]
       refine tkI 2 19 rfl (by intro w hSw; obtain ⟨q0, q1, q2⟩ := (H6V.out _ hSw).got; simp only at q0 q1 q2; obtain ⟨g0, g1, g2⟩ := H6G.out _ hSw; go_simp <;> with_reducible rfl) hHeld ?_; simp only [pqZ]
       refine tkI 3 20 rfl (by intro w hSw; obtain ⟨q0, q1, q2⟩ := (H6V.out _ hSw).got; simp only at q0 q1 q2; obtain ⟨g0, g1, g2⟩ := H6G.out _ hSw; go_simp <;> with_reducible rfl) hHeld ?_; simp only [pqZ]
       refine tkI 4 21 rfl (by intro w hSw; obtain ⟨q0, q1, q2⟩ := (H6V.out _ hSw).got; simp only at q0 q1 q2; obtain ⟨g0, g1, g2⟩ := H6G.out _ hSw; go_simp <;> with_reducible rfl) hHeld ?_; simp only [pqZ]
       refine tkI 5 22 rfl (by intro w hSw; obtain ⟨q0, q1, q2⟩ := (H6V.out _ hSw).got; simp only at q0 q1 q2; obtain ⟨g0, g1, g2⟩ := H6G.out _ hSw; go_simp <;> with_reducible rfl) hHeld ?_; simp only [pqZ]
       refine tkI 6 23 rfl (by intro w hSw; obtain ⟨q0, q1, q2⟩ := (H6V.out _ hSw).got; simp only at q0 q1 q2; obtain ⟨g0, g1, g2⟩ := H6G.out _ hSw; go_simp <;> with_reducible rfl) hHeld ?_; simp only [pqZ]
       refine tkI 7 24 rfl (by intro w hSw; obtain ⟨q0, q1, q2⟩ := (H6V.out _ hSw).got; simp only at q0 q1 q2; obtain ⟨g0, g1, g2⟩ := H6G.out _ hSw; go_simp <;> with_reducible rfl) hHeld ?_; simp only [pqZ]
       refine rdZ 8 25 rfl (by kernel_rfl) (fun K hK => ?_)
       go_simp
       refine (HL.out _).mono ?_
       rintro e y8 ⟨rfl, hk8⟩
       have hKeep := since_step hHeld hk8
       go_wp2_with fail
       refine hK.out _ _ (by (try dsimp only); exact hKeep) (fun hHeld => ?_); clear hK K hKeep; try simp only [pqZ]
       refine tkI 9 26 rfl (by intro w hSw; obtain ⟨q0, q1, q2⟩ := (H6V.out _ hSw).got; simp only at q0 q1 q2; obtain ⟨g0, g1, g2⟩ := H6G.out _ hSw; go_simp <;> with_reducible rfl) hHeld ?_; simp only [pqZ]
       refine tkI 10 27 rfl (by intro w hSw; obtain ⟨q0, q1, q2⟩ := (H6V.out _ hSw).got; simp only at q0 q1 q2; obtain ⟨g0, g1, g2⟩ := H6G.out _ hSw; go_simp <;> with_reducible rfl) hHeld ?_; simp only [pqZ]
       refine wpAnyH_done (by kernel_rfl) ?_ _
       have hB3 := hB.trans (hHeld.mono hB.size)
       have hown := own_below hown hHeld
       have hsz := hB3.size
       clear hHeld
       clear hk8
       obtain ⟨q0, q1, q2⟩ := (HV.out _ hB3).got
       simp only at q0 q1 q2
       go_wp2_with (first
        | (at_builtin; refine wpList_app rfl (.tmp 28) (.tmp 30) rfl ELt rfl rfl (hown.alloc _) (m := 1) (news := (⟨xa, xt, xq⟩ : Lt).cells) rfl (Sl.new_ _ _ _) (Lt.one _) (by unfold maxLen; omega) (by omega) (by simp only [World.size_alloc]; omega) ?_; intro A2 c2 w2 hown2 hg2 hb2)
        | fail)
       have hB4 := (since_alloc hB3 (.cells #[.int .i64 xa, .int .i64 xt, .int .i64 xq] 33)).trans hb2
       have hown := hown2
       clear hown2 hg2 hb2 q0 q1 q2 hB3 hsz
       have H9V : Hid (∀ V, Below w2.heap.size w2 V → Lt.Bx V w.heap.size ⟨xa, xt, xq⟩) := Lib.hid fun V hV => HV.out _ (hB4.trans (hV.mono hB4.size))
       have H9G : Hid (∀ V, Below w2.heap.size w2 V → _) := Lib.hid fun V hV => HG.out _ (hB4.trans (hV.mono hB4.size))
       refine wp_region_held_drew (S := (fun V => Below w2.heap.size w2 V)) (by kernel_rfl) (by exact (Below.refl _ _).drew) (fun hHeld => ?_)
       refine tkI 0 32 rfl (by intro w hSw; obtain ⟨q0, q1, q2⟩ := (H9V.out _ hSw).got; simp only at q0 q1 q2; obtain ⟨g0, g1, g2⟩ := H9G.out _ hSw; go_simp <;> with_reducible rfl) hHeld ?_; simp only [pqZ]
       refine tkI 1 33 rfl (by intro w hSw; obtain ⟨q0, q1, q2⟩ := (H9V.out _ hSw).got; simp only at q0 q1 q2; obtain ⟨g0, g1, g2⟩ := H9G.out _ hSw; go_simp <;> with_reducible rfl) hHeld ?_; simp only [pqZ]
       refine tkI 2 34 rfl (by intro w hSw; obtain ⟨q0, q1, q2⟩ := (H9V.out _ hSw).got; simp only at q0 q1 q2; obtain ⟨g0, g1, g2⟩ := H9G.out _ hSw; go_simp <;> with_reducible rfl) hHeld ?_; simp only [pqZ]
       refine tkI 3 35 rfl (by intro w hSw; obtain ⟨q0, q1, q2⟩ := (H9V.out _ hSw).got; simp only at q0 q1 q2; obtain ⟨g0, g1, g2⟩ := H9G.out _ hSw; go_simp <;> with_reducible rfl) hHeld ?_; simp only [pqZ]
       refine tkI 4 36 rfl (by intro w hSw; obtain ⟨q0, q1, q2⟩ := (H9V.out _ hSw).got; simp only at q0 q1 q2; obtain ⟨g0, g1, g2⟩ := H9G.out _ hSw; go_simp <;> with_reducible rfl) hHeld ?_; simp only [pqZ]
       refine tkI 5 37 rfl (by intro w hSw; obtain ⟨q0, q1, q2⟩ := (H9V.out _ hSw).got; simp only at q0 q1 q2; obtain ⟨g0, g1, g2⟩ := H9G.out _ hSw; go_simp <;> with_reducible rfl) hHeld ?_; simp only [pqZ]
       refine tkI 6 38 rfl (by intro w hSw; obtain ⟨q0, q1, q2⟩ := (H9V.out _ hSw).got; simp only at q0 q1 q2; obtain ⟨g0, g1, g2⟩ := H9G.out _ hSw; go_simp <;> with_reducible rfl) hHeld ?_; simp only [pqZ]
       refine tkI 7 39 rfl (by intro w hSw; obtain ⟨q0, q1, q2⟩ := (H9V.out _ hSw).got; simp only at q0 q1 q2; obtain ⟨g0, g1, g2⟩ := H9G.out _ hSw; go_simp <;> with_reducible rfl) hHeld ?_; simp only [pqZ]
       refine tkI 8 40 rfl (by intro w hSw; obtain ⟨q0, q1, q2⟩ := (H9V.out _ hSw).got; simp only at q0 q1 q2; obtain ⟨g0, g1, g2⟩ := H9G.out _ hSw; go_simp <;> with_reducible rfl) hHeld ?_; simp only [pqZ]
       refine tkI 9 41 rfl (by intro w hSw; obtain ⟨q0, q1, q2⟩ := (H9V.out _ hSw).got; simp only at q0 q1 q2; obtain ⟨g0, g1, g2⟩ := H9G.out _ hSw; go_simp <;> with_reducible rfl) hHeld ?_; simp only [pqZ]
       refine tkI 10 42 rfl (by intro w hSw; obtain ⟨q0, q1, q2⟩ := (H9V.out _ hSw).got; simp only at q0 q1 q2; obtain ⟨g0, g1, g2⟩ := H9G.out _ hSw; go_simp <;> with_reducible rfl) hHeld ?_; simp only [pqZ]
       refine tkI 11 43 rfl (by intro w hSw; obtain ⟨q0, q1, q2⟩ := (H9V.out _ hSw).got; simp only at q0 q1 q2; obtain ⟨g0, g1, g2⟩ := H9G.out _ hSw; go_simp <;> with_reducible rfl) hHeld ?_; simp only [pqZ]
       refine tkI 12 44 rfl (by intro w hSw; obtain ⟨q0, q1, q2⟩ := (H9V.out _ hSw).got; simp only at q0 q1 q2; obtain ⟨g0, g1, g2⟩ := H9G.out _ hSw; go_simp <;> with_reducible rfl) hHeld ?_; simp only [pqZ]
       refine tkI 13 45 rfl (by intro w hSw; obtain ⟨q0, q1, q2⟩ := (H9V.out _ hSw).got; simp only at q0 q1 q2; obtain ⟨g0, g1, g2⟩ := H9G.out _ hSw; go_simp <;> with_reducible rfl) hHeld ?_; simp only [pqZ]
       refine tkI 14 46 rfl (by intro w hSw; obtain ⟨q0, q1, q2⟩ := (H9V.out _ hSw).got; simp only at q0 q1 q2; obtain ⟨g0, g1, g2⟩ := H9G.out _ hSw; go_simp <;> with_reducible rfl) hHeld ?_; simp only [pqZ]
       refine tkI 15 47 rfl (by intro w hSw; obtain ⟨q0, q1, q2⟩ := (H9V.out _ hSw).got; simp only at q0 q1 q2; obtain ⟨g0, g1, g2⟩ := H9G.out _ hSw; go_simp <;> with_reducible rfl) hHeld ?_; simp only [pqZ]
       refine tkI 16 48 rfl (by intro w hSw; obtain ⟨q0, q1, q2⟩ := (H9V.out _ hSw).got; simp only at q0 q1 q2; obtain ⟨g0, g1, g2⟩ := H9G.out _ hSw; go_simp <;> with_reducible rfl) hHeld ?_; simp only [pqZ]
       refine tkI 17 49 rfl (by intro w hSw; obtain ⟨q0, q1, q2⟩ := (H9V.out _ hSw).got; simp only at q0 q1 q2; obtain ⟨g0, g1, g2⟩ := H9G.out _ hSw; go_simp <;> with_reducible rfl) hHeld ?_; simp only [pqZ]
       refine wpAnyH_done (by kernel_rfl) ?_ _
       generalize w2.drew = Vn at *
       have hB5 := hB4.trans (hHeld.mono hB4.size)
       have hown := own_below hown hHeld
       have hsz := hB5.size
       clear hHeld
       obtain ⟨g0, g1, g2⟩ := HG.out _ hB5
       go_wp2_with (first
        | (at_builtin; refine wpList_app rfl (.tmp 50) (.tmp 55) rfl ELt rfl rfl (hown.alloc _) (m := 1) (news := (⟨va, vt, vq⟩ : Lt).cells) rfl (Sl.new_ _ _ _) (Lt.one _) (by unfold maxLen; omega) (by omega) (by simp only [World.size_alloc]; omega) ?_; intro A5 c5 w5 hown5 hg5 hb5)
        | fail)
       have hB6 := (since_alloc hB5 (.cells #[.int .i64 va, .int .i64 vt, .int .i64 vq] 33)).trans hb5
       have hown := hown5
       clear hown5 hg5 hb5
       go_roundw
       case rel => exact ⟨k + 1, R ++ ([⟨xa, xt, xq⟩, ⟨va, vt, vq⟩] : List Lt), true, A5, c5, by omega, by rw [HNR.out]; omega, by go_num, rfl, by rw [HNR.out], by rw [HNR.out, HRC.out]; exact hown, HN.out, hB6⟩
       case measure => simp [intOf]; omega
     ·have hs1 : sameL xa xt ⟨va, vt, vq⟩ = false := by simp [sameL, h1]
      have HN : Hid ((R ++ ([⟨xa, xt, xq⟩, ⟨va, vt, vq⟩] : List Lt)) ++ setF ⟨xa, xt, xq⟩ true (l.drop (k + 1)) = L) := Lib.hid (bit_step (HI.out.trans rfl) (by rw [HD.out]; simp [setF, ha, hs1]))
      have HNR : Hid ((R ++ ([⟨xa, xt, xq⟩, ⟨va, vt, vq⟩] : List Lt)).length = R.length + 2) := Lib.hid (by simp)
      have HRC : Hid (rc Lt.cells (R ++ ([⟨xa, xt, xq⟩, ⟨va, vt, vq⟩] : List Lt)) = rc Lt.cells R ++ (⟨xa, xt, xq⟩ : Lt).cells ++ (⟨va, vt, vq⟩ : Lt).cells) := Lib.hid (by simp [rc])
      have h1b : (va == xa) = false := by simpa using h1
      have h1c : (va != xa) = true := by simpa using h1
      clear h1
      rw [ha] at HL
      clear ha
      clear hs1 HI HD
      have H6V : Hid (∀ V, Below wr.heap.size wr V → Lt.Bx V w.heap.size ⟨xa, xt, xq⟩) := Lib.hid fun V hV => HV.out _ (hB.trans (hV.mono hB.size))
      have H6G : Hid (∀ V, Below wr.heap.size wr V → Lt.at ⟨va, vt, vq⟩ V b (o + k * 3)) := Lib.hid fun V hV => HG.out _ (hB.trans (hV.mono hB.size))
      unfold Lt.at at H6G HG
      simp only at H6G HG
      unfold Lt.val at HL
      simp only at HL
      go_wp2_with fail
      refine wp_region_held_drew (S := (fun V => Below wr.heap.size wr V)) (by kernel_rfl) (by exact (Below.refl _ _).drew) (fun hHeld => ?_)
      refine tkI 0 17 rfl (by intro w hSw; obtain ⟨q0, q1, q2⟩ := (H6V.out _ hSw).got; simp only at q0 q1 q2; obtain ⟨g0, g1, g2⟩ := H6G.out _ hSw; go_simp <;> with_reducible rfl) hHeld ?_; simp only [pqZ]
      refine tkI 1 18 rfl (by intro w hSw; obtain ⟨q0, q1, q2⟩ := (H6V.out _ hSw).got; simp only at q0 q1 q2; obtain ⟨g0, g1, g2⟩ := H6G.out _ hSw; go_simp <;> with_reducible rfl) hHeld ?_; simp only [pqZ]
      refine tkI 2 19 rfl (by intro w hSw; obtain ⟨q0, q1, q2⟩ := (H6V.out _ hSw).got; simp only at q0 q1 q2; obtain ⟨g0, g1, g2⟩ := H6G.out _ hSw; go_simp <;> with_reducible rfl) hHeld ?_; simp only [pqZ]
      refine tkI 3 20 rfl (by intro w hSw; obtain ⟨q0, q1, q2⟩ := (H6V.out _ hSw).got; simp only at q0 q1 q2; obtain ⟨g0, g1, g2⟩ := H6G.out _ hSw; go_simp <;> with_reducible rfl) hHeld ?_; simp only [pqZ]
      refine tkI 4 21 rfl (by intro w hSw; obtain ⟨q0, q1, q2⟩ := (H6V.out _ hSw).got; simp only at q0 q1 q2; obtain ⟨g0, g1, g2⟩ := H6G.out _ hSw; go_simp <;> with_reducible rfl) hHeld ?_; simp only [pqZ]
      refine tkI 5 22 rfl (by intro w hSw; obtain ⟨q0, q1, q2⟩ := (H6V.out _ hSw).got; simp only at q0 q1 q2; obtain ⟨g0, g1, g2⟩ := H6G.out _ hSw; go_simp <;> with_reducible rfl) hHeld ?_; simp only [pqZ]
      refine tkI 6 23 rfl (by intro w hSw; obtain ⟨q0, q1, q2⟩ := (H6V.out _ hSw).got; simp only at q0 q1 q2; obtain ⟨g0, g1, g2⟩ := H6G.out _ hSw; go_simp <;> with_reducible rfl) hHeld ?_; simp only [pqZ]
      refine tkI 7 24 rfl (by intro w hSw; obtain ⟨q0, q1, q2⟩ := (H6V.out _ hSw).got; simp only at q0 q1 q2; obtain ⟨g0, g1, g2⟩ := H6G.out _ hSw; go_simp <;> with_reducible rfl) hHeld ?_; simp only [pqZ]
      refine rdZ 8 25 rfl (by kernel_rfl) (fun K hK => ?_)
      go_simp
      refine (HL.out _).mono ?_
      rintro e y8 ⟨rfl, hk8⟩
      have hKeep := since_step hHeld hk8
      go_wp2_with fail
      refine hK.out _ _ (by (try dsimp only); exact hKeep) (fun hHeld => ?_); clear hK K hKeep; try simp only [pqZ]
      refine tkI 9 26 rfl (by intro w hSw; obtain ⟨q0, q1, q2⟩ := (H6V.out _ hSw).got; simp only at q0 q1 q2; obtain ⟨g0, g1, g2⟩ := H6G.out _ hSw; go_simp <;> with_reducible rfl) hHeld ?_; simp only [pqZ]
      refine tkI 10 27 rfl (by intro w hSw; obtain ⟨q0, q1, q2⟩ := (H6V.out _ hSw).got; simp only at q0 q1 q2; obtain ⟨g0, g1, g2⟩ := H6G.out _ hSw; go_simp <;> with_reducible rfl) hHeld ?_; simp only [pqZ]
      refine wpAnyH_done (by kernel_rfl) ?_ _
      have hB3 := hB.trans (hHeld.mono hB.size)
      have hown := own_below hown hHeld
      have hsz := hB3.size
      clear hHeld
      clear hk8
      obtain ⟨q0, q1, q2⟩ := (HV.out _ hB3).got
      simp only at q0 q1 q2
      go_wp2_with (first
       | (at_builtin; refine wpList_app rfl (.tmp 28) (.tmp 30) rfl ELt rfl rfl (hown.alloc _) (m := 1) (news := (⟨xa, xt, xq⟩ : Lt).cells) rfl (Sl.new_ _ _ _) (Lt.one _) (by unfold maxLen; omega) (by omega) (by simp only [World.size_alloc]; omega) ?_; intro A2 c2 w2 hown2 hg2 hb2)
       | fail)
      have hB4 := (since_alloc hB3 (.cells #[.int .i64 xa, .int .i64 xt, .int .i64 xq] 33)).trans hb2
      have hown := hown2
      clear hown2 hg2 hb2 q0 q1 q2 hB3 hsz
      have H9V : Hid (∀ V, Below w2.heap.size w2 V → Lt.Bx V w.heap.size ⟨xa, xt, xq⟩) := Lib.hid fun V hV => HV.out _ (hB4.trans (hV.mono hB4.size))
      have H9G : Hid (∀ V, Below w2.heap.size w2 V → _) := Lib.hid fun V hV => HG.out _ (hB4.trans (hV.mono hB4.size))
      refine wp_region_held_drew (S := (fun V => Below w2.heap.size w2 V)) (by kernel_rfl) (by exact (Below.refl _ _).drew) (fun hHeld => ?_)
      refine tkI 0 32 rfl (by intro w hSw; obtain ⟨q0, q1, q2⟩ := (H9V.out _ hSw).got; simp only at q0 q1 q2; obtain ⟨g0, g1, g2⟩ := H9G.out _ hSw; go_simp <;> with_reducible rfl) hHeld ?_; simp only [pqZ]
      refine tkI 1 33 rfl (by intro w hSw; obtain ⟨q0, q1, q2⟩ := (H9V.out _ hSw).got; simp only at q0 q1 q2; obtain ⟨g0, g1, g2⟩ := H9G.out _ hSw; go_simp <;> with_reducible rfl) hHeld ?_; simp only [pqZ]
      refine tkI 2 34 rfl (by intro w hSw; obtain ⟨q0, q1, q2⟩ := (H9V.out _ hSw).got; simp only at q0 q1 q2; obtain ⟨g0, g1, g2⟩ := H9G.out _ hSw; go_simp <;> with_reducible rfl) hHeld ?_; simp only [pqZ]
      refine tkI 3 35 rfl (by intro w hSw; obtain ⟨q0, q1, q2⟩ := (H9V.out _ hSw).got; simp only at q0 q1 q2; obtain ⟨g0, g1, g2⟩ := H9G.out _ hSw; go_simp <;> with_reducible rfl) hHeld ?_; simp only [pqZ]
      refine tkI 4 36 rfl (by intro w hSw; obtain ⟨q0, q1, q2⟩ := (H9V.out _ hSw).got; simp only at q0 q1 q2; obtain ⟨g0, g1, g2⟩ := H9G.out _ hSw; go_simp <;> with_reducible rfl) hHeld ?_; simp only [pqZ]
      refine tkI 5 37 rfl (by intro w hSw; obtain ⟨q0, q1, q2⟩ := (H9V.out _ hSw).got; simp only at q0 q1 q2; obtain ⟨g0, g1, g2⟩ := H9G.out _ hSw; go_simp <;> with_reducible rfl) hHeld ?_; simp only [pqZ]
      refine tkI 6 38 rfl (by intro w hSw; obtain ⟨q0, q1, q2⟩ := (H9V.out _ hSw).got; simp only at q0 q1 q2; obtain ⟨g0, g1, g2⟩ := H9G.out _ hSw; go_simp <;> with_reducible rfl) hHeld ?_; simp only [pqZ]
      refine tkI 7 39 rfl (by intro w hSw; obtain ⟨q0, q1, q2⟩ := (H9V.out _ hSw).got; simp only at q0 q1 q2; obtain ⟨g0, g1, g2⟩ := H9G.out _ hSw; go_simp <;> with_reducible rfl) hHeld ?_; simp only [pqZ]
      refine tkI 8 40 rfl (by intro w hSw; obtain ⟨q0, q1, q2⟩ := (H9V.out _ hSw).got; simp only at q0 q1 q2; obtain ⟨g0, g1, g2⟩ := H9G.out _ hSw; go_simp <;> with_reducible rfl) hHeld ?_; simp only [pqZ]
      refine tkO 9 41 rfl (by kernel_rfl) (by rfl) hHeld ?_; simp only [pqZ]
      refine tkO 10 42 rfl (by kernel_rfl) (by rfl) hHeld ?_; simp only [pqZ]
      refine tkO 11 43 rfl (by kernel_rfl) (by rfl) hHeld ?_; simp only [pqZ]
      refine tkO 12 44 rfl (by kernel_rfl) (by rfl) hHeld ?_; simp only [pqZ]
      refine tkO 13 45 rfl (by kernel_rfl) (by rfl) hHeld ?_; simp only [pqZ]
      refine tkO 14 46 rfl (by kernel_rfl) (by rfl) hHeld ?_; simp only [pqZ]
      refine tkO 15 47 rfl (by kernel_rfl) (by rfl) hHeld ?_; simp only [pqZ]
      refine tkO 16 48 rfl (by kernel_rfl) (by rfl) hHeld ?_; simp only [pqZ]
      refine tkI 17 49 rfl (by intro w hSw; obtain ⟨q0, q1, q2⟩ := (H9V.out _ hSw).got; simp only at q0 q1 q2; obtain ⟨g0, g1, g2⟩ := H9G.out _ hSw; go_simp <;> with_reducible rfl) hHeld ?_; simp only [pqZ]
      refine wpAnyH_done (by kernel_rfl) ?_ _
      generalize w2.drew = Vn at *
      have hB5 := hB4.trans (hHeld.mono hB4.size)
      have hown := own_below hown hHeld
      have hsz := hB5.size
      clear hHeld
      obtain ⟨g0, g1, g2⟩ := HG.out _ hB5
      go_wp2_with (first
       | (at_builtin; refine wpList_app rfl (.tmp 50) (.tmp 55) rfl ELt rfl rfl (hown.alloc _) (m := 1) (news := (⟨va, vt, vq⟩ : Lt).cells) rfl (Sl.new_ _ _ _) (Lt.one _) (by unfold maxLen; omega) (by omega) (by simp only [World.size_alloc]; omega) ?_; intro A5 c5 w5 hown5 hg5 hb5)
       | fail)
      have hB6 := (since_alloc hB5 (.cells #[.int .i64 va, .int .i64 vt, .int .i64 vq] 33)).trans hb5
      have hown := hown5
      clear hown5 hg5 hb5
      go_roundw
      case rel => exact ⟨k + 1, R ++ ([⟨xa, xt, xq⟩, ⟨va, vt, vq⟩] : List Lt), true, A5, c5, by omega, by rw [HNR.out]; omega, by go_num, rfl, by rw [HNR.out], by rw [HNR.out, HRC.out]; exact hown, HN.out, hB6⟩
      case measure => simp [intOf]; omega
  ·obtain rfl : k = l.length := by omega
   have HV0 := HV.out _ hB
   obtain ⟨q0, q1, q2⟩ := HV0.got
   simp only at q0 q1 q2
   have hBw := hB0.trans (hB.mono hWs)
   have hsz := hB.size
   cases d with
   | true =>
    have HE : Hid (L = R) := Lib.hid (by rw [← HI.out]; simp [setF])
    clear HI
    go_wp2_with fail
    go_ret
    rw [HE.out]
    exact ⟨⟨A', c', rfl, own_base hown hWs⟩, hBw⟩
   | false =>
    have HE : Hid (L = R ++ [⟨xa, xt, xq⟩]) := Lib.hid (by rw [← HI.out]; simp [setF])
    clear HI
    go_wp2_with (first
     | (at_builtin; refine wpList_app rfl (.tmp 59) (.tmp 61) rfl ELt rfl rfl (hown.alloc _) (m := 1) (news := (⟨xa, xt, xq⟩ : Lt).cells) rfl (Sl.new_ _ _ _) (Lt.one _) (by unfold maxLen; omega) (by omega) (by simp only [World.size_alloc]; omega) ?_; intro A2 c2 w2 hown2 hg2 hb2)
     | fail)
    go_ret
    rw [HE.out]
    refine ⟨⟨A2, c2, ?_, ?_⟩, (since_alloc hBw _).trans (hb2.mono hWs)⟩
    ·simp only [List.length_append, List.length_singleton]; rfl
    ·rw [rc_snoc]; simp only [List.length_append, List.length_singleton]; exact own_base hown2 hWs
end
end Go.Proofs.YtmjndpkfhdoljaaGreat
