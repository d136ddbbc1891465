import Derived.Test.YtmjndpkfhdoljaaGreatCm41
import Derived.Test.YtmjndpkfhdoljaaGreatCm42
set_option maxHeartbeats 16000000
set_option maxRecDepth 100000
set_option linter.unusedVariables false
set_option linter.unusedSimpArgs false
section
namespace Go.Proofs.YtmjndpkfhdoljaaGreat.Hq
open Go.ChangeShapes Go.WideShapes Go.ChangeAt Go.RowKit
theorem Sl.drop0 {w : World} {g n : Nat} {xs : List Value} (h : Sl w (some ⟨g, 0, none⟩) xs) : Sl w (some ⟨g, n, none⟩) (xs.drop n) := by
  intro hne
  obtain ⟨b, o, e, hc⟩ := h (by rintro rfl; simp at hne)
  injection e with e
  injection e with e1 e2 e3
  subst e1; subst e2
  refine ⟨g, n, rfl, fun j u hu => ?_⟩
  rw [List.getElem?_drop] at hu
  have := hc _ _ hu
  rwa [Nat.zero_add] at this
theorem rc_take_snoc (l : List Hd) (k : Nat) (hlt : k < l.length) : rc Hd.cells (l.take (k + 1)) = rc Hd.cells (l.take k) ++ l[k].cells := by
  have e : rc Hd.cells [l[k]] = l[k].cells := by simp [rc]
  rw [take_snoc l k hlt, rc_append, e]
theorem rhwith_nilN (A : Option Addr) (cap : Nat) (l : List Hd) (cs : List Hc) (a c : Int) (LA : Option Addr) (LC : Nat) (w : World) (hl : l.length ≤ 900000) (hcap : CapH A l.length cap) (hs : Sl w A (rc Hd.cells l)) (ht : HdTab w l cs) (hso : SoH cs) :
  Calls Tryz.prog 32 #[.slice A l.length cap, .agg #[.int .i64 a, .int .i64 c], .slice LA 0 LC] w fun e w' => HRowN l (fun A => A = LA) w.heap.size w' e (withH cs a c []) ∧ Below w.heap.size w w' := by
 have HLC := Lib.hid ht.1
 have HCA := Lib.hid hcap
 have HWC : Hid (∀ k, k ≤ cs.length → (∀ j, (hj : j < cs.length) → j < k → ahH cs[j] ⟨a, c, []⟩ = true) → (∀ hk : k < cs.length, ahH cs[k] ⟨a, c, []⟩ = false) → withH cs a c [] = cs.take k ++ [] ++ cs.drop (if h : k < cs.length then (if unH a c cs[k] = true then k + 1 else k) else k)) := Lib.hid fun k h1 h2 h3 => by
  have h := with_cut a c [] cs k hso h1 h2 h3
  rwa [if_pos rfl] at h
 have hB0 := since_alloc (Below.refl _ w) (.cells #[.int .i64 a, .int .i64 c] 41)
 have hK := Bk.new w #[.int .i64 a, .int .i64 c] 41
 have hs0 := hs.alloc (.cells #[.int .i64 a, .int .i64 c] 41)
 have ht0 := ht.below hB0
 have hWs := hB0.size
 clear hs ht hcap hso
 go_enter Tryz.func32, Tryz.ntmps32
 go_upto_region 1 with fail
 generalize hWW : w.alloc (.cells #[.int .i64 a, .int .i64 c] 41) = W at *
 have ht0 : HdTab W l cs := ht0
 clear hWW
 have HK : Hid (∀ V, Below W.heap.size W V → Bk V w.heap.size #[.int .i64 a, .int .i64 c]) := Lib.hid fun V hV => hK.below hV
 have HSL : Hid (∀ V, Below W.heap.size W V → Sl V A (rc Hd.cells l)) := Lib.hid fun V hV => hs0.below hV
 go_wp2_with fail
 go_loopw [7, 8] (fun out i wr => ∃ (k : Nat) (A' : Option Addr) (c' : Nat), k ≤ l.length ∧ i = .int .i64 k ∧ out = .slice A' k c' ∧ (∀ j, (hj : j < cs.length) → j < k → ahH cs[j] ⟨a, c, []⟩ = true) ∧ wr.ownsRow W.heap.size 98 3 (.slice A' k c') k (rc Hd.cells (l.take k)) ∧ Below W.heap.size W wr) (fun _ i _ => l.length - (intOf i).toNat)
 case atStart => exact ⟨0, none, 0, by omega, rfl, rfl, fun j hj h => absurd h (by omega), own_nil _ _ _, Below.refl _ _⟩
 case round =>
  obtain ⟨k, A', c', hk, rfl, rfl, hno, hown, hB⟩ := hrel
  by_cases hlt : k < l.length
  ·have hlc : k < cs.length := HLC.out ▸ hlt
   obtain ⟨b, o, rfl, hbw, hg⟩ := hs0.hd hlt
   obtain ⟨rfl, hcap1, hcap2⟩ : o = 0 ∧ l.length ≤ cap ∧ cap ≤ maxLen := by
    rcases HCA.out with ⟨h, _⟩ | ⟨b', e, h1, h2⟩
    ·cases h
    ·injection e with e
     injection e with e1 e2
     exact ⟨e2, h1, h2⟩
   unfold maxLen at hcap2
   have hI := ht0.2 k hlt hlc
   have hlk : (k : Int) < (l.length : Int) := by omega
   have hge : (0 : Int) ≤ (k : Int) := by omega
   have hks : IntKind.i64.wrap ((k : Int) + 1) = (k : Int) + 1 := IntWalk.i64_in _ (by omega)
   simp only [Nat.zero_add] at hg
   have HG : Hid (∀ V, Below W.heap.size W V → l[k].at V b (k * 3)) := Lib.hid fun V hV => Hd.at_keep hg fun i => hV.cell (p := ⟨b, i, none⟩) hbw
   have HX : Hid (∀ q, ahH cs[k] ⟨a, c, []⟩ = q → if q = true then ∀ j, (hj : j < cs.length) → j < k + 1 → ahH cs[j] ⟨a, c, []⟩ = true else withH cs a c [] = cs.take k ++ [] ++ cs.drop (if unH a c cs[k] = true then k + 1 else k)) := Lib.hid fun q hq => by
    cases q with
    | true =>
     intro j hj hjk
     rcases Nat.lt_or_ge j k with h | h
     ·exact hno j hj h
     ·obtain rfl : j = k := by omega
      exact hq
    | false =>
     have h := HWC.out k (by omega) hno (fun _ => hq)
     rw [dif_pos hlc] at h
     exact h
   have HT : Hid (rc Hd.cells (l.take (k + 1)) = rc Hd.cells (l.take k) ++ l[k].cells) := Lib.hid (rc_take_snoc l k hlt)
   clear hno hg HWC
   generalize l[k] = v at *
   generalize cs[k] = d at *
   obtain ⟨va, vc, vt, vL, vC⟩ := v
   obtain ⟨da, dc, dL⟩ := d
   obtain ⟨i0, i1, i2, i3⟩ := hI
   simp only at i0 i1 i2 i3
   subst i0; subst i1; subst i2
   unfold Hd.at at HG
   unfold ahH unH at HX
   simp only at HG HX HT
   clear i3
   cases hah : keyLt va vc a c with
   | true =>
    have HN := Lib.hid (HX.out _ hah)
    have HL := Lib.hid hah
    simp only [if_true] at HN
    have HN : Hid (∀ j, (hj : j < cs.length) → j < k + 1 → ahH cs[j] ⟨a, c, []⟩ = true) := Lib.hid HN.out
    clear HX hah
    go_wp2_with fail
    refine wp_region_held_drew (S := (fun V => Below W.heap.size W V ∧ V.ownsRow W.heap.size 98 3 (.slice A' k c') k (rc Hd.cells (l.take k)))) (by kernel_rfl) (by exact ⟨hB.drew, own_below hown ((Below.refl _ _).drew)⟩) (fun hHeld => ?_)
    refine tkI 0 9 rfl (by intro w hSw; obtain ⟨g0, g1, g2⟩ := HG.out _ (hSw).1; have ck := (HK.out _ (hSw).1).2; have k0 := ck 0; have k1 := ck 1; simp at k0 k1; clear ck; go_simp <;> with_reducible rfl) hHeld ?_; simp only [pqZ]
    refine tkI 1 10 rfl (by intro w hSw; obtain ⟨g0, g1, g2⟩ := HG.out _ (hSw).1; have ck := (HK.out _ (hSw).1).2; have k0 := ck 0; have k1 := ck 1; simp at k0 k1; clear ck; go_simp <;> with_reducible rfl) hHeld ?_; simp only [pqZ]
    refine tkI 2 11 rfl (by intro w hSw; obtain ⟨g0, g1, g2⟩ := HG.out _ (hSw).1; have ck := (HK.out _ (hSw).1).2; have k0 := ck 0; have k1 := ck 1; simp at k0 k1; clear ck; go_simp <;> with_reducible rfl) hHeld ?_; simp only [pqZ]
    refine tkI 3 12 rfl (by intro w hSw; obtain ⟨g0, g1, g2⟩ := HG.out _ (hSw).1; have ck := (HK.out _ (hSw).1).2; have k0 := ck 0; have k1 := ck 1; simp at k0 k1; clear ck; go_simp <;> with_reducible rfl) hHeld ?_; simp only [pqZ]
    refine tkI 4 13 rfl (by intro w hSw; obtain ⟨g0, g1, g2⟩ := HG.out _ (hSw).1; have ck := (HK.out _ (hSw).1).2; have k0 := ck 0; have k1 := ck 1; simp at k0 k1; clear ck; go_simp <;> with_reducible rfl) hHeld ?_; simp only [pqZ]
    refine tkI 5 14 rfl (by intro w hSw; obtain ⟨g0, g1, g2⟩ := HG.out _ (hSw).1; have ck := (HK.out _ (hSw).1).2; have k0 := ck 0; have k1 := ck 1; simp at k0 k1; clear ck; go_simp <;> with_reducible rfl) hHeld ?_; simp only [pqZ]
    refine tkI 6 15 rfl (by intro w hSw; obtain ⟨g0, g1, g2⟩ := HG.out _ (hSw).1; have ck := (HK.out _ (hSw).1).2; have k0 := ck 0; have k1 := ck 1; simp at k0 k1; clear ck; go_simp <;> with_reducible rfl) hHeld ?_; simp only [pqZ]
    refine tkI 7 16 rfl (by intro w hSw; obtain ⟨g0, g1, g2⟩ := HG.out _ (hSw).1; have ck := (HK.out _ (hSw).1).2; have k0 := ck 0; have k1 := ck 1; simp at k0 k1; clear ck; go_simp <;> with_reducible rfl) hHeld ?_; simp only [pqZ]
    refine tkI 8 17 rfl (by intro w hSw; obtain ⟨g0, g1, g2⟩ := HG.out _ (hSw).1; have ck := (HK.out _ (hSw).1).2; have k0 := ck 0; have k1 := ck 1; simp at k0 k1; clear ck; go_simp <;> with_reducible rfl) hHeld ?_; simp only [pqZ]
    refine tkI 9 18 rfl (by intro w hSw; obtain ⟨g0, g1, g2⟩ := HG.out _ (hSw).1; have ck := (HK.out _ (hSw).1).2; have k0 := ck 0; have k1 := ck 1; simp at k0 k1; clear ck; go_simp <;> with_reducible rfl) hHeld ?_; simp only [pqZ]
    refine tkI 10 19 rfl (by intro w hSw; obtain ⟨g0, g1, g2⟩ := HG.out _ (hSw).1; have ck := (HK.out _ (hSw).1).2; have k0 := ck 0; have k1 := ck 1; simp at k0 k1; clear ck; go_simp <;> with_reducible rfl) hHeld ?_; simp only [pqZ]
    refine rdZ 11 20 rfl (by kernel_rfl) (fun K hK => ?_)
    go_simp
    refine (r15less_any _ _ _ _ _).mono ?_
    rintro e u1 ⟨rfl, hk1⟩
    have hKeep := And.intro (since_step hHeld.1 hk1) (own_below hHeld.2 hk1)
    rw [HL.out]
    go_wp2_with fail
    refine hK.out _ _ (by (try dsimp only); exact hKeep) (fun hHeld => ?_); clear hK K hKeep; try simp only [pqZ]
    refine tkI 12 21 rfl (by intro w hSw; obtain ⟨g0, g1, g2⟩ := HG.out _ (hSw).1; have ck := (HK.out _ (hSw).1).2; have k0 := ck 0; have k1 := ck 1; simp at k0 k1; clear ck; go_simp <;> with_reducible rfl) hHeld ?_; simp only [pqZ]
    refine wpAnyH_done (by kernel_rfl) ?_ _
    obtain ⟨hB2, ho1⟩ := hHeld
    have hsz := hB2.size
    obtain ⟨g0, g1, g2⟩ := HG.out _ hB2
    go_wp2_with (first
     | (at_builtin; refine wpList_app rfl (.tmp 22) (.tmp 27) rfl EHd rfl rfl (ho1.alloc _) (m := 1) (news := [.int .i64 va, .int .i64 vc, .slice vt dL.length vC]) rfl (Sl.new_ _ _ _) (Hd.one ⟨va, vc, vt, dL.length, vC⟩) (by unfold maxLen; omega) (by omega) (by simp only [World.size_alloc]; omega) ?_; intro A2 c2 w2 hown2 hg2 hb2)
     | fail)
    go_roundw
    case rel => exact ⟨k + 1, A2, c2, by omega, by go_num, rfl, HN.out, by rw [HT.out]; exact hown2, (since_alloc hB2 _).trans hb2⟩
    case measure => simp [intOf]; omega
   | false =>
    have HE := Lib.hid (HX.out _ hah)
    have HL := Lib.hid hah
    simp only [Bool.false_eq_true, if_false] at HE
    clear HX hah
    by_cases h1 : va = a
    ·subst h1
     by_cases h2 : vc = c
     ·subst h2
      have HE : Hid (withH cs va vc [] = cs.take k ++ [] ++ cs.drop (k + 1)) := Lib.hid (by have := HE.out; simpa using this)
      go_wp2_with fail
      refine wp_region_held_drew (S := (fun V => Below W.heap.size W V ∧ V.ownsRow W.heap.size 98 3 (.slice A' k c') k (rc Hd.cells (l.take k)))) (by kernel_rfl) (by exact ⟨hB.drew, own_below hown ((Below.refl _ _).drew)⟩) (fun hHeld => ?_)
      refine tkI 0 9 rfl (by intro w hSw; obtain ⟨g0, g1, g2⟩ := HG.out _ (hSw).1; have ck := (HK.out _ (hSw).1).2; have k0 := ck 0; have k1 := ck 1; simp at k0 k1; clear ck; go_simp <;> with_reducible rfl) hHeld ?_; simp only [pqZ]
      refine tkI 1 10 rfl (by intro w hSw; obtain ⟨g0, g1, g2⟩ := HG.out _ (hSw).1; have ck := (HK.out _ (hSw).1).2; have k0 := ck 0; have k1 := ck 1; simp at k0 k1; clear ck; go_simp <;> with_reducible rfl) hHeld ?_; simp only [pqZ]
      refine tkI 2 11 rfl (by intro w hSw; obtain ⟨g0, g1, g2⟩ := HG.out _ (hSw).1; have ck := (HK.out _ (hSw).1).2; have k0 := ck 0; have k1 := ck 1; simp at k0 k1; clear ck; go_simp <;> with_reducible rfl) hHeld ?_; simp only [pqZ]
      refine tkI 3 12 rfl (by intro w hSw; obtain ⟨g0, g1, g2⟩ := HG.out _ (hSw).1; have ck := (HK.out _ (hSw).1).2; have k0 := ck 0; have k1 := ck 1; simp at k0 k1; clear ck; go_simp <;> with_reducible rfl) hHeld ?_; simp only [pqZ]
      refine tkI 4 13 rfl (by intro w hSw; obtain ⟨g0, g1, g2⟩ := HG.out _ (hSw).1; have ck := (HK.out _ (hSw).1).2; have k0 := ck 0; have k1 := ck 1; simp at k0 k1; clear ck; go_simp <;> with_reducible rfl) hHeld ?_; simp only [pqZ]
      refine tkI 5 14 rfl (by intro w hSw; obtain ⟨g0, g1, g2⟩ := HG.out _ (hSw).1; have ck := (HK.out _ (hSw).1).2; have k0 := ck 0; have k1 := ck 1; simp at k0 k1; clear ck; go_simp <;> with_reducible rfl) hHeld ?_; simp only [pqZ]
      refine tkI 6 15 rfl (by intro w hSw; obtain ⟨g0, g1, g2⟩ := HG.out _ (hSw).1; have ck := (HK.out _ (hSw).1).2; have k0 := ck 0; have k1 := ck 1; simp at k0 k1; clear ck; go_simp <;> with_reducible rfl) hHeld ?_; simp only [pqZ]
      refine tkI 7 16 rfl (by intro w hSw; obtain ⟨g0, g1, g2⟩ := HG.out _ (hSw).1; have ck := (HK.out _ (hSw).1).2; have k0 := ck 0; have k1 := ck 1; simp at k0 k1; clear ck; go_simp <;> with_reducible rfl) hHeld ?_; simp only [pqZ]
      refine tkI 8 17 rfl (by intro w hSw; obtain ⟨g0, g1, g2⟩ := HG.out _ (hSw).1; have ck := (HK.out _ (hSw).1).2; have k0 := ck 0; have k1 := ck 1; simp at k0 k1; clear ck; go_simp <;> with_reducible rfl) hHeld ?_; simp only [pqZ]
      refine tkI 9 18 rfl (by intro w hSw; obtain ⟨g0, g1, g2⟩ := HG.out _ (hSw).1; have ck := (HK.out _ (hSw).1).2; have k0 := ck 0; have k1 := ck 1; simp at k0 k1; clear ck; go_simp <;> with_reducible rfl) hHeld ?_; simp only [pqZ]
      refine tkI 10 19 rfl (by intro w hSw; obtain ⟨g0, g1, g2⟩ := HG.out _ (hSw).1; have ck := (HK.out _ (hSw).1).2; have k0 := ck 0; have k1 := ck 1; simp at k0 k1; clear ck; go_simp <;> with_reducible rfl) hHeld ?_; simp only [pqZ]
      refine rdZ 11 20 rfl (by kernel_rfl) (fun K hK => ?_)
      go_simp
      refine (r15less_any _ _ _ _ _).mono ?_
      rintro e u1 ⟨rfl, hk1⟩
      have hKeep := And.intro (since_step hHeld.1 hk1) (own_below hHeld.2 hk1)
      rw [HL.out]
      go_wp2_with fail
      refine hK.out _ _ (by (try dsimp only); exact hKeep) (fun hHeld => ?_); clear hK K hKeep; try simp only [pqZ]
      refine tkI 12 21 rfl (by intro w hSw; obtain ⟨g0, g1, g2⟩ := HG.out _ (hSw).1; have ck := (HK.out _ (hSw).1).2; have k0 := ck 0; have k1 := ck 1; simp at k0 k1; clear ck; go_simp <;> with_reducible rfl) hHeld ?_; simp only [pqZ]
      refine wpAnyH_done (by kernel_rfl) ?_ _
      obtain ⟨hB2, ho1⟩ := hHeld
      have hsz := hB2.size
      go_upto_region 8 with fail
      have hB8 := hB2
      have ho8 := ho1
      refine wp_region_held_drew (S := (fun V => Below W.heap.size W V ∧ V.ownsRow W.heap.size 98 3 (.slice A' k c') k (rc Hd.cells (l.take k)))) (by kernel_rfl) (by exact ⟨hB8.drew, own_below ho8 ((Below.refl _ _).drew)⟩) (fun hHeld => ?_)
      refine tkI 0 40 rfl (by intro w hSw; obtain ⟨g0, g1, g2⟩ := HG.out _ (hSw).1; have ck := (HK.out _ (hSw).1).2; have k0 := ck 0; have k1 := ck 1; simp at k0 k1; clear ck; go_simp <;> with_reducible rfl) hHeld ?_; simp only [pqZ]
      refine tkI 1 41 rfl (by intro w hSw; obtain ⟨g0, g1, g2⟩ := HG.out _ (hSw).1; have ck := (HK.out _ (hSw).1).2; have k0 := ck 0; have k1 := ck 1; simp at k0 k1; clear ck; go_simp <;> with_reducible rfl) hHeld ?_; simp only [pqZ]
      refine tkI 2 42 rfl (by intro w hSw; obtain ⟨g0, g1, g2⟩ := HG.out _ (hSw).1; have ck := (HK.out _ (hSw).1).2; have k0 := ck 0; have k1 := ck 1; simp at k0 k1; clear ck; go_simp <;> with_reducible rfl) hHeld ?_; simp only [pqZ]
      refine tkI 3 43 rfl (by intro w hSw; obtain ⟨g0, g1, g2⟩ := HG.out _ (hSw).1; have ck := (HK.out _ (hSw).1).2; have k0 := ck 0; have k1 := ck 1; simp at k0 k1; clear ck; go_simp <;> with_reducible rfl) hHeld ?_; simp only [pqZ]
      refine tkI 4 44 rfl (by intro w hSw; obtain ⟨g0, g1, g2⟩ := HG.out _ (hSw).1; have ck := (HK.out _ (hSw).1).2; have k0 := ck 0; have k1 := ck 1; simp at k0 k1; clear ck; go_simp <;> with_reducible rfl) hHeld ?_; simp only [pqZ]
      refine tkI 5 45 rfl (by intro w hSw; obtain ⟨g0, g1, g2⟩ := HG.out _ (hSw).1; have ck := (HK.out _ (hSw).1).2; have k0 := ck 0; have k1 := ck 1; simp at k0 k1; clear ck; go_simp <;> with_reducible rfl) hHeld ?_; simp only [pqZ]
      refine tkI 6 46 rfl (by intro w hSw; obtain ⟨g0, g1, g2⟩ := HG.out _ (hSw).1; have ck := (HK.out _ (hSw).1).2; have k0 := ck 0; have k1 := ck 1; simp at k0 k1; clear ck; go_simp <;> with_reducible rfl) hHeld ?_; simp only [pqZ]
      refine tkI 7 47 rfl (by intro w hSw; obtain ⟨g0, g1, g2⟩ := HG.out _ (hSw).1; have ck := (HK.out _ (hSw).1).2; have k0 := ck 0; have k1 := ck 1; simp at k0 k1; clear ck; go_simp <;> with_reducible rfl) hHeld ?_; simp only [pqZ]
      refine tkI 8 48 rfl (by intro w hSw; obtain ⟨g0, g1, g2⟩ := HG.out _ (hSw).1; have ck := (HK.out _ (hSw).1).2; have k0 := ck 0; have k1 := ck 1; simp at k0 k1; clear ck; go_simp <;> with_reducible rfl) hHeld ?_; simp only [pqZ]
      refine tkI 9 49 rfl (by intro w hSw; obtain ⟨g0, g1, g2⟩ := HG.out _ (hSw).1; have ck := (HK.out _ (hSw).1).2; have k0 := ck 0; have k1 := ck 1; simp at k0 k1; clear ck; go_simp <;> with_reducible rfl) hHeld ?_; simp only [pqZ]
      refine tkI 10 50 rfl (by intro w hSw; obtain ⟨g0, g1, g2⟩ := HG.out _ (hSw).1; have ck := (HK.out _ (hSw).1).2; have k0 := ck 0; have k1 := ck 1; simp at k0 k1; clear ck; go_simp <;> with_reducible rfl) hHeld ?_; simp only [pqZ]
      refine tkI 11 51 rfl (by intro w hSw; obtain ⟨g0, g1, g2⟩ := HG.out _ (hSw).1; have ck := (HK.out _ (hSw).1).2; have k0 := ck 0; have k1 := ck 1; simp at k0 k1; clear ck; go_simp <;> with_reducible rfl) hHeld ?_; simp only [pqZ]
      refine tkI 12 52 rfl (by intro w hSw; obtain ⟨g0, g1, g2⟩ := HG.out _ (hSw).1; have ck := (HK.out _ (hSw).1).2; have k0 := ck 0; have k1 := ck 1; simp at k0 k1; clear ck; go_simp <;> with_reducible rfl) hHeld ?_; simp only [pqZ]
      refine wpAnyH_done (by kernel_rfl) ?_ _
      obtain ⟨hB9, ho9⟩ := hHeld
      have hsz9 := hB9.size
      have hKl : k + 1 ≤ l.length := by omega
      have hKi : (k : Int) + 1 ≤ (l.length : Int) := by omega
      have hK0 : (0 : Int) ≤ (k : Int) + 1 := by omega
      have hK3 : ((k : Int) + 1).toNat = k + 1 := by omega
      by_cases hlK : (k + 1) < l.length
      ·have hck : ¬ (cap = k + 1) := by omega
       have hkc : k + 1 ≤ cap := by omega
       go_wp2_with (first
        | (at_builtin; refine wpList_app rfl (.tmp 55) (.tmp 58) rfl EHd rfl rfl ho9 (m := l.length - (k + 1)) (news := rc Hd.cells (l.drop (k + 1))) (by rw [rc_length Hd.len, List.length_drop]) (by rw [← rc_drop Hd.len]; exact Sl.drop0 (HSL.out _ hB9)) (rc_one Hd.one _) (by unfold maxLen; omega) (by omega) (by have hz := hsz9; (try simp only [World.size_alloc, World.size_drew] at hz ⊢); omega) ?_; intro A4 c4 w5 hown4 hg4 hb4)
        | fail)
       have hBz := hB9.trans hb4
       have htz := ht0.below hBz
       have hel : (l.take k ++ ([] : List Hd) ++ l.drop (k + 1)).length = k + (l.length - (k + 1)) := by simp; try omega
       have hel2 : (l.take k ++ ([] : List Hd) ++ l.drop (k + 1)).length = k + (l.length - (k + 1)) := by simp; try omega
       go_ret
       refine ⟨⟨(l.take k ++ ([] : List Hd) ++ l.drop (k + 1)), A4, c4, by first | (rw [hel]; rfl) | (rw [hel2]; rfl) | (rw [hel, h0]; rfl) | (rw [hel]; simp [h0]; done), ?_, ?_, by rw [hel]; exact CapH.of_own hown4, (AtOr.own hown4).mono hWs, FarH.pieces (fun g h => by cases h) _ _⟩, hB0.trans (hBz.mono hWs)⟩
       ·have h := Sl.of_own hown4
        have e : rc Hd.cells (l.take k ++ ([] : List Hd) ++ l.drop (k + 1)) = (rc Hd.cells (l.take k)) ++ rc Hd.cells (l.drop (k + 1)) := by simp only [rc_append, show rc Hd.cells ([] : List Hd) = [] from rfl, List.append_nil, List.append_assoc]
        rw [e]; exact h
       ·rw [HE.out]
        exact HdTab.append (HdTab.append (htz.take k) (HdTab.nil _)) (htz.drop (k + 1))
      ·have hKe : k + 1 = l.length := by omega
       have HDR : Hid (cs.drop (k + 1) = []) := Lib.hid (by rw [hKe, HLC.out]; exact List.drop_length ..)
       by_cases hcr : cap = k + 1
       ·have hck2 : (cap == k + 1) = true := by simpa using hcr
        have hkc : k + 1 ≤ cap := by omega
        go_wp2_with (first
         | (at_builtin; refine wpList_app rfl (.tmp 55) (.tmp 58) rfl EHd rfl rfl ho9 (m := 0) (news := []) rfl Sl.nil (by intro u hu; cases hu) (by unfold maxLen; omega) (by omega) (by have hz := hsz9; (try simp only [World.size_alloc, World.size_drew] at hz ⊢); omega) ?_; intro A4 c4 w5 hown4 hg4 hb4)
         | fail)
        have hBz := hB9.trans hb4
        have htz := ht0.below hBz
        have hel : (l.take k ++ ([] : List Hd) ++ ([] : List Hd)).length = k + (0) := by simp; try omega
        have hel2 : (l.take k ++ ([] : List Hd) ++ ([] : List Hd)).length = k + (0) := by simp; try omega
        go_ret
        refine ⟨⟨(l.take k ++ ([] : List Hd) ++ ([] : List Hd)), A4, c4, by first | (rw [hel]; rfl) | (rw [hel2]; rfl) | (rw [hel, h0]; rfl) | (rw [hel]; simp [h0]; done), ?_, ?_, by rw [hel]; exact CapH.of_own hown4, (AtOr.own hown4).mono hWs, FarH.pieces0 (fun g h => by cases h) _⟩, hB0.trans (hBz.mono hWs)⟩
        ·have h := Sl.of_own hown4
         have e : rc Hd.cells (l.take k ++ ([] : List Hd) ++ ([] : List Hd)) = (rc Hd.cells (l.take k)) ++ [] := by simp only [rc_append, show rc Hd.cells ([] : List Hd) = [] from rfl, List.append_nil, List.append_assoc]
         rw [e]; exact h
        ·rw [HE.out]
         exact HdTab.append (HdTab.append (htz.take k) (HdTab.nil _)) (by rw [HDR.out]; exact HdTab.nil _)
       ·have hck : ¬ (cap = k + 1) := hcr
        have hkc : k + 1 ≤ cap := by omega
        go_wp2_with (first
         | (at_builtin; refine wpList_app rfl (.tmp 55) (.tmp 58) rfl EHd rfl rfl ho9 (m := 0) (news := []) rfl Sl.nil (by intro u hu; cases hu) (by unfold maxLen; omega) (by omega) (by have hz := hsz9; (try simp only [World.size_alloc, World.size_drew] at hz ⊢); omega) ?_; intro A4 c4 w5 hown4 hg4 hb4)
         | fail)
        have hBz := hB9.trans hb4
        have htz := ht0.below hBz
        have hel : (l.take k ++ ([] : List Hd) ++ ([] : List Hd)).length = k + (0) := by simp; try omega
        have hel2 : (l.take k ++ ([] : List Hd) ++ ([] : List Hd)).length = k + (0) := by simp; try omega
        go_ret
        refine ⟨⟨(l.take k ++ ([] : List Hd) ++ ([] : List Hd)), A4, c4, by first | (rw [hel]; rfl) | (rw [hel2]; rfl) | (rw [hel, h0]; rfl) | (rw [hel]; simp [h0]; done), ?_, ?_, by rw [hel]; exact CapH.of_own hown4, (AtOr.own hown4).mono hWs, FarH.pieces0 (fun g h => by cases h) _⟩, hB0.trans (hBz.mono hWs)⟩
        ·have h := Sl.of_own hown4
         have e : rc Hd.cells (l.take k ++ ([] : List Hd) ++ ([] : List Hd)) = (rc Hd.cells (l.take k)) ++ [] := by simp only [rc_append, show rc Hd.cells ([] : List Hd) = [] from rfl, List.append_nil, List.append_assoc]
         rw [e]; exact h
        ·rw [HE.out]
         exact HdTab.append (HdTab.append (htz.take k) (HdTab.nil _)) (by rw [HDR.out]; exact HdTab.nil _)
     ·have h2b : (vc == c) = false := by simpa using h2
      have HE : Hid (withH cs va c [] = cs.take k ++ [] ++ cs.drop k) := Lib.hid (by have := HE.out; simpa [h2] using this)
      clear h2
      go_wp2_with fail
      refine wp_region_held_drew (S := (fun V => Below W.heap.size W V ∧ V.ownsRow W.heap.size 98 3 (.slice A' k c') k (rc Hd.cells (l.take k)))) (by kernel_rfl) (by exact ⟨hB.drew, own_below hown ((Below.refl _ _).drew)⟩) (fun hHeld => ?_)
      refine tkI 0 9 rfl (by intro w hSw; obtain ⟨g0, g1, g2⟩ := HG.out _ (hSw).1; have ck := (HK.out _ (hSw).1).2; have k0 := ck 0; have k1 := ck 1; simp at k0 k1; clear ck; go_simp <;> with_reducible rfl) hHeld ?_; simp only [pqZ]
      refine tkI 1 10 rfl (by intro w hSw; obtain ⟨g0, g1, g2⟩ := HG.out _ (hSw).1; have ck := (HK.out _ (hSw).1).2; have k0 := ck 0; have k1 := ck 1; simp at k0 k1; clear ck; go_simp <;> with_reducible rfl) hHeld ?_; simp only [pqZ]
      refine tkI 2 11 rfl (by intro w hSw; obtain ⟨g0, g1, g2⟩ := HG.out _ (hSw).1; have ck := (HK.out _ (hSw).1).2; have k0 := ck 0; have k1 := ck 1; simp at k0 k1; clear ck; go_simp <;> with_reducible rfl) hHeld ?_; simp only [pqZ]
      refine tkI 3 12 rfl (by intro w hSw; obtain ⟨g0, g1, g2⟩ := HG.out _ (hSw).1; have ck := (HK.out _ (hSw).1).2; have k0 := ck 0; have k1 := ck 1; simp at k0 k1; clear ck; go_simp <;> with_reducible rfl) hHeld ?_; simp only [pqZ]
      refine tkI 4 13 rfl (by intro w hSw; obtain ⟨g0, g1, g2⟩ := HG.out _ (hSw).1; have ck := (HK.out _ (hSw).1).2; have k0 := ck 0; have k1 := ck 1; simp at k0 k1; clear ck; go_simp <;> with_reducible rfl) hHeld ?_; simp only [pqZ]
      refine tkI 5 14 rfl (by intro w hSw; obtain ⟨g0, g1, g2⟩ := HG.out _ (hSw).1; have ck := (HK.out _ (hSw).1).2; have k0 := ck 0; have k1 := ck 1; simp at k0 k1; clear ck; go_simp <;> with_reducible rfl) hHeld ?_; simp only [pqZ]
      refine tkI 6 15 rfl (by intro w hSw; obtain ⟨g0, g1, g2⟩ := HG.out _ (hSw).1; have ck := (HK.out _ (hSw).1).2; have k0 := ck 0; have k1 := ck 1; simp at k0 k1; clear ck; go_simp <;> with_reducible rfl) hHeld ?_; simp only [pqZ]
      refine tkI 7 16 rfl (by intro w hSw; obtain ⟨g0, g1, g2⟩ := HG.out _ (hSw).1; have ck := (HK.out _ (hSw).1).2; have k0 := ck 0; have k1 := ck 1; simp at k0 k1; clear ck; go_simp <;> with_reducible rfl) hHeld ?_; simp only [pqZ]
      refine tkI 8 17 rfl (by intro w hSw; obtain ⟨g0, g1, g2⟩ := HG.out _ (hSw).1; have ck := (HK.out _ (hSw).1).2; have k0 := ck 0; have k1 := ck 1; simp at k0 k1; clear ck; go_simp <;> with_reducible rfl) hHeld ?_; simp only [pqZ]
      refine tkI 9 18 rfl (by intro w hSw; obtain ⟨g0, g1, g2⟩ := HG.out _ (hSw).1; have ck := (HK.out _ (hSw).1).2; have k0 := ck 0; have k1 := ck 1; simp at k0 k1; clear ck; go_simp <;> with_reducible rfl) hHeld ?_; simp only [pqZ]
      refine tkI 10 19 rfl (by intro w hSw; obtain ⟨g0, g1, g2⟩ := HG.out _ (hSw).1; have ck := (HK.out _ (hSw).1).2; have k0 := ck 0; have k1 := ck 1; simp at k0 k1; clear ck; go_simp <;> with_reducible rfl) hHeld ?_; simp only [pqZ]
      refine rdZ 11 20 rfl (by kernel_rfl) (fun K hK => ?_)
      go_simp
      refine (r15less_any _ _ _ _ _).mono ?_
      rintro e u1 ⟨rfl, hk1⟩
      have hKeep := And.intro (since_step hHeld.1 hk1) (own_below hHeld.2 hk1)
      rw [HL.out]
      go_wp2_with fail
      refine hK.out _ _ (by (try dsimp only); exact hKeep) (fun hHeld => ?_); clear hK K hKeep; try simp only [pqZ]
      refine tkI 12 21 rfl (by intro w hSw; obtain ⟨g0, g1, g2⟩ := HG.out _ (hSw).1; have ck := (HK.out _ (hSw).1).2; have k0 := ck 0; have k1 := ck 1; simp at k0 k1; clear ck; go_simp <;> with_reducible rfl) hHeld ?_; simp only [pqZ]
      refine wpAnyH_done (by kernel_rfl) ?_ _
      obtain ⟨hB2, ho1⟩ := hHeld
      have hsz := hB2.size
      go_upto_region 8 with fail
      have hB8 := hB2
      have ho8 := ho1
      refine wp_region_held_drew (S := (fun V => Below W.heap.size W V ∧ V.ownsRow W.heap.size 98 3 (.slice A' k c') k (rc Hd.cells (l.take k)))) (by kernel_rfl) (by exact ⟨hB8.drew, own_below ho8 ((Below.refl _ _).drew)⟩) (fun hHeld => ?_)
      refine tkI 0 40 rfl (by intro w hSw; obtain ⟨g0, g1, g2⟩ := HG.out _ (hSw).1; have ck := (HK.out _ (hSw).1).2; have k0 := ck 0; have k1 := ck 1; simp at k0 k1; clear ck; go_simp <;> with_reducible rfl) hHeld ?_; simp only [pqZ]
      refine tkI 1 41 rfl (by intro w hSw; obtain ⟨g0, g1, g2⟩ := HG.out _ (hSw).1; have ck := (HK.out _ (hSw).1).2; have k0 := ck 0; have k1 := ck 1; simp at k0 k1; clear ck; go_simp <;> with_reducible rfl) hHeld ?_; simp only [pqZ]
      refine tkI 2 42 rfl (by intro w hSw; obtain ⟨g0, g1, g2⟩ := HG.out _ (hSw).1; have ck := (HK.out _ (hSw).1).2; have k0 := ck 0; have k1 := ck 1; simp at k0 k1; clear ck; go_simp <;> with_reducible rfl) hHeld ?_; simp only [pqZ]
      refine tkI 3 43 rfl (by intro w hSw; obtain ⟨g0, g1, g2⟩ := HG.out _ (hSw).1; have ck := (HK.out _ (hSw).1).2; have k0 := ck 0; have k1 := ck 1; simp at k0 k1; clear ck; go_simp <;> with_reducible rfl) hHeld ?_; simp only [pqZ]
      refine tkI 4 44 rfl (by intro w hSw; obtain ⟨g0, g1, g2⟩ := HG.out _ (hSw).1; have ck := (HK.out _ (hSw).1).2; have k0 := ck 0; have k1 := ck 1; simp at k0 k1; clear ck; go_simp <;> with_reducible rfl) hHeld ?_; simp only [pqZ]
      refine tkI 5 45 rfl (by intro w hSw; obtain ⟨g0, g1, g2⟩ := HG.out _ (hSw).1; have ck := (HK.out _ (hSw).1).2; have k0 := ck 0; have k1 := ck 1; simp at k0 k1; clear ck; go_simp <;> with_reducible rfl) hHeld ?_; simp only [pqZ]
      refine tkI 6 46 rfl (by intro w hSw; obtain ⟨g0, g1, g2⟩ := HG.out _ (hSw).1; have ck := (HK.out _ (hSw).1).2; have k0 := ck 0; have k1 := ck 1; simp at k0 k1; clear ck; go_simp <;> with_reducible rfl) hHeld ?_; simp only [pqZ]
      refine tkI 7 47 rfl (by intro w hSw; obtain ⟨g0, g1, g2⟩ := HG.out _ (hSw).1; have ck := (HK.out _ (hSw).1).2; have k0 := ck 0; have k1 := ck 1; simp at k0 k1; clear ck; go_simp <;> with_reducible rfl) hHeld ?_; simp only [pqZ]
      refine tkI 8 48 rfl (by intro w hSw; obtain ⟨g0, g1, g2⟩ := HG.out _ (hSw).1; have ck := (HK.out _ (hSw).1).2; have k0 := ck 0; have k1 := ck 1; simp at k0 k1; clear ck; go_simp <;> with_reducible rfl) hHeld ?_; simp only [pqZ]
      refine tkI 9 49 rfl (by intro w hSw; obtain ⟨g0, g1, g2⟩ := HG.out _ (hSw).1; have ck := (HK.out _ (hSw).1).2; have k0 := ck 0; have k1 := ck 1; simp at k0 k1; clear ck; go_simp <;> with_reducible rfl) hHeld ?_; simp only [pqZ]
      refine tkI 10 50 rfl (by intro w hSw; obtain ⟨g0, g1, g2⟩ := HG.out _ (hSw).1; have ck := (HK.out _ (hSw).1).2; have k0 := ck 0; have k1 := ck 1; simp at k0 k1; clear ck; go_simp <;> with_reducible rfl) hHeld ?_; simp only [pqZ]
      refine tkI 11 51 rfl (by intro w hSw; obtain ⟨g0, g1, g2⟩ := HG.out _ (hSw).1; have ck := (HK.out _ (hSw).1).2; have k0 := ck 0; have k1 := ck 1; simp at k0 k1; clear ck; go_simp <;> with_reducible rfl) hHeld ?_; simp only [pqZ]
      refine tkI 12 52 rfl (by intro w hSw; obtain ⟨g0, g1, g2⟩ := HG.out _ (hSw).1; have ck := (HK.out _ (hSw).1).2; have k0 := ck 0; have k1 := ck 1; simp at k0 k1; clear ck; go_simp <;> with_reducible rfl) hHeld ?_; simp only [pqZ]
      refine wpAnyH_done (by kernel_rfl) ?_ _
      obtain ⟨hB9, ho9⟩ := hHeld
      have hsz9 := hB9.size
      have hck : ¬ (cap = k) := by omega
      have hkc : k ≤ cap := by omega
      go_wp2_with (first
       | (at_builtin; refine wpList_app rfl (.tmp 55) (.tmp 58) rfl EHd rfl rfl ho9 (m := l.length - k) (news := rc Hd.cells (l.drop k)) (by rw [rc_length Hd.len, List.length_drop]) (by rw [← rc_drop Hd.len]; exact Sl.drop0 (HSL.out _ hB9)) (rc_one Hd.one _) (by unfold maxLen; omega) (by omega) (by have hz := hsz9; (try simp only [World.size_alloc, World.size_drew] at hz ⊢); omega) ?_; intro A4 c4 w5 hown4 hg4 hb4)
       | fail)
      have hBz := hB9.trans hb4
      have htz := ht0.below hBz
      have hel : (l.take k ++ ([] : List Hd) ++ l.drop k).length = k + (l.length - k) := by simp; try omega
      have hel2 : (l.take k ++ ([] : List Hd) ++ l.drop k).length = l.length := by simp; try omega
      go_ret
      refine ⟨⟨(l.take k ++ ([] : List Hd) ++ l.drop k), A4, c4, by first | (rw [hel]; rfl) | (rw [hel2]; rfl) | (rw [hel, h0]; rfl) | (rw [hel]; simp [h0]; done), ?_, ?_, by rw [hel]; exact CapH.of_own hown4, (AtOr.own hown4).mono hWs, FarH.pieces (fun g h => by cases h) _ _⟩, hB0.trans (hBz.mono hWs)⟩
      ·have h := Sl.of_own hown4
       have e : rc Hd.cells (l.take k ++ ([] : List Hd) ++ l.drop k) = (rc Hd.cells (l.take k)) ++ rc Hd.cells (l.drop k) := by simp only [rc_append, show rc Hd.cells ([] : List Hd) = [] from rfl, List.append_nil, List.append_assoc]
       rw [e]; exact h
      ·rw [HE.out]
       exact HdTab.append (HdTab.append (htz.take k) (HdTab.nil _)) (htz.drop k)
    ·have h1b : (va == a) = false := by simpa using h1
     have HE : Hid (withH cs a c [] = cs.take k ++ [] ++ cs.drop k) := Lib.hid (by have := HE.out; simpa [h1] using this)
     clear h1
     go_wp2_with fail
     refine wp_region_held_drew (S := (fun V => Below W.heap.size W V ∧ V.ownsRow W.heap.size 98 3 (.slice A' k c') k (rc Hd.cells (l.take k)))) (by kernel_rfl) (by exact ⟨hB.drew, own_below hown ((Below.refl _ _).drew)⟩) (fun hHeld => ?_)
     refine tkI 0 9 rfl (by intro w hSw; obtain ⟨g0, g1, g2⟩ := HG.out _ (hSw).1; have ck := (HK.out _ (hSw).1).2; have k0 := ck 0; have k1 := ck 1; simp at k0 k1; clear ck; go_simp <;> with_reducible rfl) hHeld ?_; simp only [pqZ]
     refine tkI 1 10 rfl (by intro w hSw; obtain ⟨g0, g1, g2⟩ := HG.out _ (hSw).1; have ck := (HK.out _ (hSw).1).2; have k0 := ck 0; have k1 := ck 1; simp at k0 k1; clear ck; go_simp <;> with_reducible rfl) hHeld ?_; simp only [pqZ]
     refine tkI 2 11 rfl (by intro w hSw; obtain ⟨g0, g1, g2⟩ := HG.out _ (hSw).1; have ck := (HK.out _ (hSw).1).2; have k0 := ck 0; have k1 := ck 1; simp at k0 k1; clear ck; go_simp <;> with_reducible rfl) hHeld ?_; simp only [pqZ]
     refine tkI 3 12 rfl (by intro w hSw; obtain ⟨g0, g1, g2⟩ := HG.out _ (hSw).1; have ck := (HK.out _ (hSw).1).2; have k0 := ck 0; have k1 := ck 1; simp at k0 k1; clear ck; go_simp <;> with_reducible rfl) hHeld ?_; simp only [pqZ]
     refine tkI 4 13 rfl (by intro w hSw; obtain ⟨g0, g1, g2⟩ := HG.out _ (hSw).1; have ck := (HK.out _ (hSw).1).2; have k0 := ck 0; have k1 := ck 1; simp at k0 k1; clear ck; go_simp <;> with_reducible rfl) hHeld ?_; simp only [pqZ]
     refine tkI 5 14 rfl (by intro w hSw; obtain ⟨g0, g1, g2⟩ := HG.out _ (hSw).1; have ck := (HK.out _ (hSw).1).2; have k0 := ck 0; have k1 := ck 1; simp at k0 k1; clear ck; go_simp <;> with_reducible rfl) hHeld ?_; simp only [pqZ]
     refine tkI 6 15 rfl (by intro w hSw; obtain ⟨g0, g1, g2⟩ := HG.out _ (hSw).1; have ck := (HK.out _ (hSw).1).2; have k0 := ck 0; have k1 := ck 1; simp at k0 k1; clear ck; go_simp <;> with_reducible rfl) hHeld ?_; simp only [pqZ]
     refine tkI 7 16 rfl (by intro w hSw; obtain ⟨g0, g1, g2⟩ := HG.out _ (hSw).1; have ck := (HK.out _ (hSw).1).2; have k0 := ck 0; have k1 := ck 1; simp at k0 k1; clear ck; go_simp <;> with_reducible rfl) hHeld ?_; simp only [pqZ]
     refine tkI 8 17 rfl (by intro w hSw; obtain ⟨g0, g1, g2⟩ := HG.out _ (hSw).1; have ck := (HK.out _ (hSw).1).2; have k0 := ck 0; have k1 := ck 1; simp at k0 k1; clear ck; go_simp <;> with_reducible rfl) hHeld ?_; simp only [pqZ]
     refine tkI 9 18 rfl (by intro w hSw; obtain ⟨g0, g1, g2⟩ := HG.out _ (hSw).1; have ck := (HK.out _ (hSw).1).2; have k0 := ck 0; have k1 := ck 1; simp at k0 k1; clear ck; go_simp <;> with_reducible rfl) hHeld ?_; simp only [pqZ]
     refine tkI 10 19 rfl (by intro w hSw; obtain ⟨g0, g1, g2⟩ := HG.out _ (hSw).1; have ck := (HK.out _ (hSw).1).2; have k0 := ck 0; have k1 := ck 1; simp at k0 k1; clear ck; go_simp <;> with_reducible rfl) hHeld ?_; simp only [pqZ]
     refine rdZ 11 20 rfl (by kernel_rfl) (fun K hK => ?_)
     go_simp
     refine (r15less_any _ _ _ _ _).mono ?_
     rintro e u1 ⟨rfl, hk1⟩
     have hKeep := And.intro (since_step hHeld.1 hk1) (own_below hHeld.2 hk1)
     rw [HL.out]
     go_wp2_with fail
     refine hK.out _ _ (by (try dsimp only); exact hKeep) (fun hHeld => ?_); clear hK K hKeep; try simp only [pqZ]
     refine tkI 12 21 rfl (by intro w hSw; obtain ⟨g0, g1, g2⟩ := HG.out _ (hSw).1; have ck := (HK.out _ (hSw).1).2; have k0 := ck 0; have k1 := ck 1; simp at k0 k1; clear ck; go_simp <;> with_reducible rfl) hHeld ?_; simp only [pqZ]
     refine wpAnyH_done (by kernel_rfl) ?_ _
     obtain ⟨hB2, ho1⟩ := hHeld
     have hsz := hB2.size
     go_upto_region 8 with fail
     have hB8 := hB2
     have ho8 := ho1
     refine wp_region_held_drew (S := (fun V => Below W.heap.size W V ∧ V.ownsRow W.heap.size 98 3 (.slice A' k c') k (rc Hd.cells (l.take k)))) (by kernel_rfl) (by exact ⟨hB8.drew, own_below ho8 ((Below.refl _ _).drew)⟩) (fun hHeld => ?_)
     refine tkI 0 40 rfl (by intro w hSw; obtain ⟨g0, g1, g2⟩ := HG.out _ (hSw).1; have ck := (HK.out _ (hSw).1).2; have k0 := ck 0; have k1 := ck 1; simp at k0 k1; clear ck; go_simp <;> with_reducible rfl) hHeld ?_; simp only [pqZ]
     refine tkI 1 41 rfl (by intro w hSw; obtain ⟨g0, g1, g2⟩ := HG.out _ (hSw).1; have ck := (HK.out _ (hSw).1).2; have k0 := ck 0; have k1 := ck 1; simp at k0 k1; clear ck; go_simp <;> with_reducible rfl) hHeld ?_; simp only [pqZ]
     refine tkI 2 42 rfl (by intro w hSw; obtain ⟨g0, g1, g2⟩ := HG.out _ (hSw).1; have ck := (HK.out _ (hSw).1).2; have k0 := ck 0; have k1 := ck 1; simp at k0 k1; clear ck; go_simp <;> with_reducible rfl) hHeld ?_; simp only [pqZ]
     refine tkI 3 43 rfl (by intro w hSw; obtain ⟨g0, g1, g2⟩ := HG.out _ (hSw).1; have ck := (HK.out _ (hSw).1).2; have k0 := ck 0; have k1 := ck 1; simp at k0 k1; clear ck; go_simp <;> with_reducible rfl) hHeld ?_; simp only [pqZ]
     refine tkI 4 44 rfl (by intro w hSw; obtain ⟨g0, g1, g2⟩ := HG.out _ (hSw).1; have ck := (HK.out _ (hSw).1).2; have k0 := ck 0; have k1 := ck 1; simp at k0 k1; clear ck; go_simp <;> with_reducible rfl) hHeld ?_; simp only [pqZ]
     refine tkI 5 45 rfl (by intro w hSw; obtain ⟨g0, g1, g2⟩ := HG.out _ (hSw).1; have ck := (HK.out _ (hSw).1).2; have k0 := ck 0; have k1 := ck 1; simp at k0 k1; clear ck; go_simp <;> with_reducible rfl) hHeld ?_; simp only [pqZ]
     refine tkI 6 46 rfl (by intro w hSw; obtain ⟨g0, g1, g2⟩ := HG.out _ (hSw).1; have ck := (HK.out _ (hSw).1).2; have k0 := ck 0; have k1 := ck 1; simp at k0 k1; clear ck; go_simp <;> with_reducible rfl) hHeld ?_; simp only [pqZ]
     refine tkI 7 47 rfl (by intro w hSw; obtain ⟨g0, g1, g2⟩ := HG.out _ (hSw).1; have ck := (HK.out _ (hSw).1).2; have k0 := ck 0; have k1 := ck 1; simp at k0 k1; clear ck; go_simp <;> with_reducible rfl) hHeld ?_; simp only [pqZ]
     refine tkI 8 48 rfl (by intro w hSw; obtain ⟨g0, g1, g2⟩ := HG.out _ (hSw).1; have ck := (HK.out _ (hSw).1).2; have k0 := ck 0; have k1 := ck 1; simp at k0 k1; clear ck; go_simp <;> with_reducible rfl) hHeld ?_; simp only [pqZ]
     refine tkI 9 49 rfl (by intro w hSw; obtain ⟨g0, g1, g2⟩ := HG.out _ (hSw).1; have ck := (HK.out _ (hSw).1).2; have k0 := ck 0; have k1 := ck 1; simp at k0 k1; clear ck; go_simp <;> with_reducible rfl) hHeld ?_; simp only [pqZ]
     refine tkI 10 50 rfl (by intro w hSw; obtain ⟨g0, g1, g2⟩ := HG.out _ (hSw).1; have ck := (HK.out _ (hSw).1).2; have k0 := ck 0; have k1 := ck 1; simp at k0 k1; clear ck; go_simp <;> with_reducible rfl) hHeld ?_; simp only [pqZ]
     refine tkI 11 51 rfl (by intro w hSw; obtain ⟨g0, g1, g2⟩ := HG.out _ (hSw).1; have ck := (HK.out _ (hSw).1).2; have k0 := ck 0; have k1 := ck 1; simp at k0 k1; clear ck; go_simp <;> with_reducible rfl) hHeld ?_; simp only [pqZ]
     refine tkI 12 52 rfl (by intro w hSw; obtain ⟨g0, g1, g2⟩ := HG.out _ (hSw).1; have ck := (HK.out _ (hSw).1).2; have k0 := ck 0; have k1 := ck 1; simp at k0 k1; clear ck; go_simp <;> with_reducible rfl) hHeld ?_; simp only [pqZ]
     refine wpAnyH_done (by kernel_rfl) ?_ _
     obtain ⟨hB9, ho9⟩ := hHeld
     have hsz9 := hB9.size
     have hck : ¬ (cap = k) := by omega
     have hkc : k ≤ cap := by omega
     go_wp2_with (first
      | (at_builtin; refine wpList_app rfl (.tmp 55) (.tmp 58) rfl EHd rfl rfl ho9 (m := l.length - k) (news := rc Hd.cells (l.drop k)) (by rw [rc_length Hd.len, List.length_drop]) (by rw [← rc_drop Hd.len]; exact Sl.drop0 (HSL.out _ hB9)) (rc_one Hd.one _) (by unfold maxLen; omega) (by omega) (by have hz := hsz9; (try simp only [World.size_alloc, World.size_drew] at hz ⊢); omega) ?_; intro A4 c4 w5 hown4 hg4 hb4)
      | fail)
     have hBz := hB9.trans hb4
     have htz := ht0.below hBz
     have hel : (l.take k ++ ([] : List Hd) ++ l.drop k).length = k + (l.length - k) := by simp; try omega
     have hel2 : (l.take k ++ ([] : List Hd) ++ l.drop k).length = l.length := by simp; try omega
     go_ret
     refine ⟨⟨(l.take k ++ ([] : List Hd) ++ l.drop k), A4, c4, by first | (rw [hel]; rfl) | (rw [hel2]; rfl) | (rw [hel, h0]; rfl) | (rw [hel]; simp [h0]; done), ?_, ?_, by rw [hel]; exact CapH.of_own hown4, (AtOr.own hown4).mono hWs, FarH.pieces (fun g h => by cases h) _ _⟩, hB0.trans (hBz.mono hWs)⟩
     ·have h := Sl.of_own hown4
      have e : rc Hd.cells (l.take k ++ ([] : List Hd) ++ l.drop k) = (rc Hd.cells (l.take k)) ++ rc Hd.cells (l.drop k) := by simp only [rc_append, show rc Hd.cells ([] : List Hd) = [] from rfl, List.append_nil, List.append_assoc]
      rw [e]; exact h
     ·rw [HE.out]
      exact HdTab.append (HdTab.append (htz.take k) (HdTab.nil _)) (htz.drop k)
  ·obtain rfl : k = l.length := by omega
   have HE : Hid (withH cs a c [] = cs.take l.length ++ [] ++ cs.drop l.length) := Lib.hid (by
    have h := HWC.out l.length (by rw [HLC.out]; exact Nat.le_refl _) hno (fun h => absurd h (by rw [HLC.out]; exact Nat.lt_irrefl _))
    rw [dif_neg (by rw [HLC.out]; exact Nat.lt_irrefl _)] at h
    exact h)
   clear hno HWC
   go_wp2_with fail
   refine wp_region_held_drew (S := (fun V => Below W.heap.size W V ∧ V.ownsRow W.heap.size 98 3 (.slice A' l.length c') l.length (rc Hd.cells (l.take l.length)))) (by kernel_rfl) (by exact ⟨hB.drew, own_below hown ((Below.refl _ _).drew)⟩) (fun hHeld => ?_)
   refine tkI 0 9 rfl (by intro w hSw; have ck := (HK.out _ (hSw).1).2; have k0 := ck 0; have k1 := ck 1; simp at k0 k1; clear ck; go_simp <;> with_reducible rfl) hHeld ?_; simp only [pqZ]
   refine tkI 1 10 rfl (by intro w hSw; have ck := (HK.out _ (hSw).1).2; have k0 := ck 0; have k1 := ck 1; simp at k0 k1; clear ck; go_simp <;> with_reducible rfl) hHeld ?_; simp only [pqZ]
   refine tkI 2 11 rfl (by intro w hSw; have ck := (HK.out _ (hSw).1).2; have k0 := ck 0; have k1 := ck 1; simp at k0 k1; clear ck; go_simp <;> with_reducible rfl) hHeld ?_; simp only [pqZ]
   refine tkI 3 12 rfl (by intro w hSw; have ck := (HK.out _ (hSw).1).2; have k0 := ck 0; have k1 := ck 1; simp at k0 k1; clear ck; go_simp <;> with_reducible rfl) hHeld ?_; simp only [pqZ]
   refine tkI 4 13 rfl (by intro w hSw; have ck := (HK.out _ (hSw).1).2; have k0 := ck 0; have k1 := ck 1; simp at k0 k1; clear ck; go_simp <;> with_reducible rfl) hHeld ?_; simp only [pqZ]
   refine tkO 5 14 rfl (by kernel_rfl) (by rfl) hHeld ?_; simp only [pqZ]
   refine tkO 6 15 rfl (by kernel_rfl) (by rfl) hHeld ?_; simp only [pqZ]
   refine tkO 7 16 rfl (by kernel_rfl) (by rfl) hHeld ?_; simp only [pqZ]
   refine tkO 8 17 rfl (by kernel_rfl) (by rfl) hHeld ?_; simp only [pqZ]
   refine tkO 9 18 rfl (by kernel_rfl) (by rfl) hHeld ?_; simp only [pqZ]
   refine tkO 10 19 rfl (by kernel_rfl) (by rfl) hHeld ?_; simp only [pqZ]
   refine tkO 11 20 rfl (by kernel_rfl) (by rfl) hHeld ?_; simp only [pqZ]
   refine tkI 12 21 rfl (by intro w hSw; have ck := (HK.out _ (hSw).1).2; have k0 := ck 0; have k1 := ck 1; simp at k0 k1; clear ck; go_simp <;> with_reducible rfl) hHeld ?_; simp only [pqZ]
   refine wpAnyH_done (by kernel_rfl) ?_ _
   obtain ⟨hB2, ho1⟩ := hHeld
   have hsz := hB2.size
   go_upto_region 8 with fail
   have hB8 := hB2
   have ho8 := ho1
   refine wp_region_held_drew (S := (fun V => Below W.heap.size W V ∧ V.ownsRow W.heap.size 98 3 (.slice A' l.length c') l.length (rc Hd.cells (l.take l.length)))) (by kernel_rfl) (by exact ⟨hB8.drew, own_below ho8 ((Below.refl _ _).drew)⟩) (fun hHeld => ?_)
   refine tkI 0 40 rfl (by intro w hSw; have ck := (HK.out _ (hSw).1).2; have k0 := ck 0; have k1 := ck 1; simp at k0 k1; clear ck; go_simp <;> with_reducible rfl) hHeld ?_; simp only [pqZ]
   refine tkI 1 41 rfl (by intro w hSw; have ck := (HK.out _ (hSw).1).2; have k0 := ck 0; have k1 := ck 1; simp at k0 k1; clear ck; go_simp <;> with_reducible rfl) hHeld ?_; simp only [pqZ]
   refine tkI 2 42 rfl (by intro w hSw; have ck := (HK.out _ (hSw).1).2; have k0 := ck 0; have k1 := ck 1; simp at k0 k1; clear ck; go_simp <;> with_reducible rfl) hHeld ?_; simp only [pqZ]
   refine tkI 3 43 rfl (by intro w hSw; have ck := (HK.out _ (hSw).1).2; have k0 := ck 0; have k1 := ck 1; simp at k0 k1; clear ck; go_simp <;> with_reducible rfl) hHeld ?_; simp only [pqZ]
   refine tkI 4 44 rfl (by intro w hSw; have ck := (HK.out _ (hSw).1).2; have k0 := ck 0; have k1 := ck 1; simp at k0 k1; clear ck; go_simp <;> with_reducible rfl) hHeld ?_; simp only [pqZ]
   refine tkO 5 45 rfl (by kernel_rfl) (by rfl) hHeld ?_; simp only [pqZ]
   refine tkO 6 46 rfl (by kernel_rfl) (by rfl) hHeld ?_; simp only [pqZ]
   refine tkO 7 47 rfl (by kernel_rfl) (by rfl) hHeld ?_; simp only [pqZ]
   refine tkO 8 48 rfl (by kernel_rfl) (by rfl) hHeld ?_; simp only [pqZ]
   refine tkO 9 49 rfl (by kernel_rfl) (by rfl) hHeld ?_; simp only [pqZ]
   refine tkO 10 50 rfl (by kernel_rfl) (by rfl) hHeld ?_; simp only [pqZ]
   refine tkO 11 51 rfl (by kernel_rfl) (by rfl) hHeld ?_; simp only [pqZ]
   refine tkI 12 52 rfl (by intro w hSw; have ck := (HK.out _ (hSw).1).2; have k0 := ck 0; have k1 := ck 1; simp at k0 k1; clear ck; go_simp <;> with_reducible rfl) hHeld ?_; simp only [pqZ]
   refine wpAnyH_done (by kernel_rfl) ?_ _
   obtain ⟨hB9, ho9⟩ := hHeld
   have hsz9 := hB9.size
   have HDR : Hid (cs.drop l.length = []) := Lib.hid (by rw [HLC.out]; exact List.drop_length ..)
   rcases HCA.out with ⟨rfl, h0, hc0⟩ | ⟨b, rfl, hcap1, hcap2⟩
   ·have hcr : cap = l.length := by omega
    subst hcr
    go_wp2_with (first
     | (at_builtin; refine wpList_app rfl (.tmp 55) (.tmp 58) rfl EHd rfl rfl ho9 (m := 0) (news := []) rfl Sl.nil (by intro u hu; cases hu) (by unfold maxLen; omega) (by omega) (by have hz := hsz9; (try simp only [World.size_alloc, World.size_drew] at hz ⊢); omega) ?_; intro A4 c4 w5 hown4 hg4 hb4)
     | fail)
    have hBz := hB9.trans hb4
    have htz := ht0.below hBz
    have hel : (l.take l.length ++ ([] : List Hd) ++ ([] : List Hd)).length = l.length + (0) := by simp; try omega
    have hel2 : (l.take l.length ++ ([] : List Hd) ++ ([] : List Hd)).length = l.length + (0) := by simp; try omega
    go_ret
    refine ⟨⟨(l.take l.length ++ ([] : List Hd) ++ ([] : List Hd)), A4, c4, by first | (rw [hel]; rfl) | (rw [hel2]; rfl) | (rw [hel, h0]; rfl) | (rw [hel]; simp [h0]; done), ?_, ?_, by rw [hel]; exact CapH.of_own hown4, (AtOr.own hown4).mono hWs, FarH.pieces0 (fun g h => by cases h) _⟩, hB0.trans (hBz.mono hWs)⟩
    ·have h := Sl.of_own hown4
     have e : rc Hd.cells (l.take l.length ++ ([] : List Hd) ++ ([] : List Hd)) = (rc Hd.cells (l.take l.length)) ++ [] := by simp only [rc_append, show rc Hd.cells ([] : List Hd) = [] from rfl, List.append_nil, List.append_assoc]
     rw [e]; exact h
    ·rw [HE.out]
     exact HdTab.append (HdTab.append (htz.take l.length) (HdTab.nil _)) (by rw [HDR.out]; exact HdTab.nil _)
   ·unfold maxLen at hcap2
    by_cases hcr : cap = l.length
    ·subst hcr
     go_wp2_with (first
      | (at_builtin; refine wpList_app rfl (.tmp 55) (.tmp 58) rfl EHd rfl rfl ho9 (m := 0) (news := []) rfl Sl.nil (by intro u hu; cases hu) (by unfold maxLen; omega) (by omega) (by have hz := hsz9; (try simp only [World.size_alloc, World.size_drew] at hz ⊢); omega) ?_; intro A4 c4 w5 hown4 hg4 hb4)
      | fail)
     have hBz := hB9.trans hb4
     have htz := ht0.below hBz
     have hel : (l.take l.length ++ ([] : List Hd) ++ ([] : List Hd)).length = l.length + (0) := by simp; try omega
     have hel2 : (l.take l.length ++ ([] : List Hd) ++ ([] : List Hd)).length = l.length + (0) := by simp; try omega
     go_ret
     refine ⟨⟨(l.take l.length ++ ([] : List Hd) ++ ([] : List Hd)), A4, c4, by first | (rw [hel]; rfl) | (rw [hel2]; rfl) | (rw [hel, h0]; rfl) | (rw [hel]; simp [h0]; done), ?_, ?_, by rw [hel]; exact CapH.of_own hown4, (AtOr.own hown4).mono hWs, FarH.pieces0 (fun g h => by cases h) _⟩, hB0.trans (hBz.mono hWs)⟩
     ·have h := Sl.of_own hown4
      have e : rc Hd.cells (l.take l.length ++ ([] : List Hd) ++ ([] : List Hd)) = (rc Hd.cells (l.take l.length)) ++ [] := by simp only [rc_append, show rc Hd.cells ([] : List Hd) = [] from rfl, List.append_nil, List.append_assoc]
      rw [e]; exact h
     ·rw [HE.out]
      exact HdTab.append (HdTab.append (htz.take l.length) (HdTab.nil _)) (by rw [HDR.out]; exact HdTab.nil _)
    ·have hck : ¬ (cap = l.length) := hcr
     go_wp2_with (first
      | (at_builtin; refine wpList_app rfl (.tmp 55) (.tmp 58) rfl EHd rfl rfl ho9 (m := 0) (news := []) rfl Sl.nil (by intro u hu; cases hu) (by unfold maxLen; omega) (by omega) (by have hz := hsz9; (try simp only [World.size_alloc, World.size_drew] at hz ⊢); omega) ?_; intro A4 c4 w5 hown4 hg4 hb4)
      | fail)
     have hBz := hB9.trans hb4
     have htz := ht0.below hBz
     have hel : (l.take l.length ++ ([] : List Hd) ++ ([] : List Hd)).length = l.length + (0) := by simp; try omega
     have hel2 : (l.take l.length ++ ([] : List Hd) ++ ([] : List Hd)).length = l.length + (0) := by simp; try omega
     go_ret
     refine ⟨⟨(l.take l.length ++ ([] : List Hd) ++ ([] : List Hd)), A4, c4, by first | (rw [hel]; rfl) | (rw [hel2]; rfl) | (rw [hel, h0]; rfl) | (rw [hel]; simp [h0]; done), ?_, ?_, by rw [hel]; exact CapH.of_own hown4, (AtOr.own hown4).mono hWs, FarH.pieces0 (fun g h => by cases h) _⟩, hB0.trans (hBz.mono hWs)⟩
     ·have h := Sl.of_own hown4
      have e : rc Hd.cells (l.take l.length ++ ([] : List Hd) ++ ([] : List Hd)) = (rc Hd.cells (l.take l.length)) ++ [] := by simp only [rc_append, show rc Hd.cells ([] : List Hd) = [] from rfl, List.append_nil, List.append_assoc]
      rw [e]; exact h
     ·rw [HE.out]
      exact HdTab.append (HdTab.append (htz.take l.length) (HdTab.nil _)) (by rw [HDR.out]; exact HdTab.nil _)
theorem rhwith_nil (A : Option Addr) (cap : Nat) (l : List Hd) (cs : List Hc) (a c : Int) (LA : Option Addr) (LC : Nat) (w : World) (hl : l.length ≤ 900000) (hcap : CapH A l.length cap) (hs : Sl w A (rc Hd.cells l)) (ht : HdTab w l cs) (hso : SoH cs) :
    Calls Tryz.prog 32 #[.slice A l.length cap, .agg #[.int .i64 a, .int .i64 c], .slice LA 0 LC] w fun e w' => HRow w' e (withH cs a c []) ∧ Below w.heap.size w w' :=
  (rhwith_nilN A cap l cs a c LA LC w hl hcap hs ht hso).mono fun e w h => ⟨h.1.row, h.2⟩
theorem rhwith_someN (A : Option Addr) (cap : Nat) (l : List Hd) (cs : List Hc) (a c : Int) (LA : Option Addr) (LC : Nat) (L : List Lt) (w : World) (hl : l.length ≤ 900000) (hcap : CapH A l.length cap) (hs : Sl w A (rc Hd.cells l)) (ht : HdTab w l cs) (hso : SoH cs) (hLs : Sl w LA (rc Lt.cells L)) (hL0 : 0 < L.length) :
  Calls Tryz.prog 32 #[.slice A l.length cap, .agg #[.int .i64 a, .int .i64 c], .slice LA L.length LC] w fun e w' => HRowN l (fun A => A = LA) w.heap.size w' e (withH cs a c L) ∧ Below w.heap.size w w' := by
 have HLC := Lib.hid ht.1
 have HCA := Lib.hid hcap
 have HWC : Hid (∀ k, k ≤ cs.length → (∀ j, (hj : j < cs.length) → j < k → ahH cs[j] ⟨a, c, L⟩ = true) → (∀ hk : k < cs.length, ahH cs[k] ⟨a, c, L⟩ = false) → withH cs a c L = cs.take k ++ [⟨a, c, L⟩] ++ cs.drop (if h : k < cs.length then (if unH a c cs[k] = true then k + 1 else k) else k)) := Lib.hid fun k h1 h2 h3 => by
  have h := with_cut a c L cs k hso h1 h2 h3
  rwa [if_neg (by rintro rfl; simp at hL0)] at h
 have hB0 := since_alloc (Below.refl _ w) (.cells #[.int .i64 a, .int .i64 c] 41)
 have hK := Bk.new w #[.int .i64 a, .int .i64 c] 41
 have hs0 := hs.alloc (.cells #[.int .i64 a, .int .i64 c] 41)
 have ht0 := ht.below hB0
 have hWs := hB0.size
 have hLs0 := hLs.alloc (.cells #[.int .i64 a, .int .i64 c] 41)
 clear hLs
 clear hs ht hcap hso
 go_enter Tryz.func32, Tryz.ntmps32
 go_upto_region 1 with fail
 generalize hWW : w.alloc (.cells #[.int .i64 a, .int .i64 c] 41) = W at *
 have ht0 : HdTab W l cs := ht0
 clear hWW
 have HK : Hid (∀ V, Below W.heap.size W V → Bk V w.heap.size #[.int .i64 a, .int .i64 c]) := Lib.hid fun V hV => hK.below hV
 have HSL : Hid (∀ V, Below W.heap.size W V → Sl V A (rc Hd.cells l)) := Lib.hid fun V hV => hs0.below hV
 have HLS : Hid (∀ V, Below W.heap.size W V → Sl V LA (rc Lt.cells L)) := Lib.hid fun V hV => hLs0.below hV
 clear hLs0
 have hLi : (0 : Int) < (L.length : Int) := by omega
 go_wp2_with fail
 go_loopw [7, 8] (fun out i wr => ∃ (k : Nat) (A' : Option Addr) (c' : Nat), k ≤ l.length ∧ i = .int .i64 k ∧ out = .slice A' k c' ∧ (∀ j, (hj : j < cs.length) → j < k → ahH cs[j] ⟨a, c, L⟩ = true) ∧ wr.ownsRow W.heap.size 98 3 (.slice A' k c') k (rc Hd.cells (l.take k)) ∧ Below W.heap.size W wr) (fun _ i _ => l.length - (intOf i).toNat)
 case atStart => exact ⟨0, none, 0, by omega, rfl, rfl, fun j hj h => absurd h (by omega), own_nil _ _ _, Below.refl _ _⟩
 case round =>
  obtain ⟨k, A', c', hk, rfl, rfl, hno, hown, hB⟩ := hrel
  by_cases hlt : k < l.length
  ·have hlc : k < cs.length := HLC.out ▸ hlt
   obtain ⟨b, o, rfl, hbw, hg⟩ := hs0.hd hlt
   obtain ⟨rfl, hcap1, hcap2⟩ : o = 0 ∧ l.length ≤ cap ∧ cap ≤ maxLen := by
    rcases HCA.out with ⟨h, _⟩ | ⟨b', e, h1, h2⟩
    ·cases h
    ·injection e with e
     injection e with e1 e2
     exact ⟨e2, h1, h2⟩
   unfold maxLen at hcap2
   have hI := ht0.2 k hlt hlc
   have hlk : (k : Int) < (l.length : Int) := by omega
   have hge : (0 : Int) ≤ (k : Int) := by omega
   have hks : IntKind.i64.wrap ((k : Int) + 1) = (k : Int) + 1 := IntWalk.i64_in _ (by omega)
   simp only [Nat.zero_add] at hg
   have HG : Hid (∀ V, Below W.heap.size W V → l[k].at V b (k * 3)) := Lib.hid fun V hV => Hd.at_keep hg fun i => hV.cell (p := ⟨b, i, none⟩) hbw
   have HX : Hid (∀ q, ahH cs[k] ⟨a, c, L⟩ = q → if q = true then ∀ j, (hj : j < cs.length) → j < k + 1 → ahH cs[j] ⟨a, c, L⟩ = true else withH cs a c L = cs.take k ++ [⟨a, c, L⟩] ++ cs.drop (if unH a c cs[k] = true then k + 1 else k)) := Lib.hid fun q hq => by
    cases q with
    | true =>
     intro j hj hjk
     rcases Nat.lt_or_ge j k with h | h
     ·exact hno j hj h
     ·obtain rfl : j = k := by omega
      exact hq
    | false =>
     have h := HWC.out k (by omega) hno (fun _ => hq)
     rw [dif_pos hlc] at h
     exact h
   have HT : Hid (rc Hd.cells (l.take (k + 1)) = rc Hd.cells (l.take k) ++ l[k].cells) := Lib.hid (rc_take_snoc l k hlt)
   clear hno hg HWC
   generalize l[k] = v at *
   generalize cs[k] = d at *
   obtain ⟨va, vc, vt, vL, vC⟩ := v
   obtain ⟨da, dc, dL⟩ := d
   obtain ⟨i0, i1, i2, i3⟩ := hI
   simp only at i0 i1 i2 i3
   subst i0; subst i1; subst i2
   unfold Hd.at at HG
   unfold ahH unH at HX
   simp only at HG HX HT
   clear i3
   cases hah : keyLt va vc a c with
   | true =>
    have HN := Lib.hid (HX.out _ hah)
    have HL := Lib.hid hah
    simp only [if_true] at HN
    have HN : Hid (∀ j, (hj : j < cs.length) → j < k + 1 → ahH cs[j] ⟨a, c, L⟩ = true) := Lib.hid HN.out
    clear HX hah
    go_wp2_with fail
    refine wp_region_held_drew (S := (fun V => Below W.heap.size W V ∧ V.ownsRow W.heap.size 98 3 (.slice A' k c') k (rc Hd.cells (l.take k)))) (by kernel_rfl) (by exact ⟨hB.drew, own_below hown ((Below.refl _ _).drew)⟩) (fun hHeld => ?_)
    refine tkI 0 9 rfl (by intro w hSw; obtain ⟨g0, g1, g2⟩ := HG.out _ (hSw).1; have ck := (HK.out _ (hSw).1).2; have k0 := ck 0; have k1 := ck 1; simp at k0 k1; clear ck; go_simp <;> with_reducible rfl) hHeld ?_; simp only [pqZ]
    refine tkI 1 10 rfl (by intro w hSw; obtain ⟨g0, g1, g2⟩ := HG.out _ (hSw).1; have ck := (HK.out _ (hSw).1).2; have k0 := ck 0; have k1 := ck 1; simp at k0 k1; clear ck; go_simp <;> with_reducible rfl) hHeld ?_; simp only [pqZ]
    refine tkI 2 11 rfl (by intro w hSw; obtain ⟨g0, g1, g2⟩ := HG.out _ (hSw).1; have ck := (HK.out _ (hSw).1).2; have k0 := ck 0; have k1 := ck 1; simp at k0 k1; clear ck; go_simp <;> with_reducible rfl) hHeld ?_; simp only [pqZ]
    refine tkI 3 12 rfl (by intro w hSw; obtain ⟨g0, g1, g2⟩ := HG.out _ (hSw).1; have ck := (HK.out _ (hSw).1).2; have k0 := ck 0; have k1 := ck 1; simp at k0 k1; clear ck; go_simp <;> with_reducible rfl) hHeld ?_; simp only [pqZ]
    refine tkI 4 13 rfl (by intro w hSw; obtain ⟨g0, g1, g2⟩ := HG.out _ (hSw).1; have ck := (HK.out _ (hSw).1).2; have k0 := ck 0; have k1 := ck 1; simp at k0 k1; clear ck; go_simp <;> with_reducible rfl) hHeld ?_; simp only [pqZ]
    refine tkI 5 14 rfl (by intro w hSw; obtain ⟨g0, g1, g2⟩ := HG.out _ (hSw).1; have ck := (HK.out _ (hSw).1).2; have k0 := ck 0; have k1 := ck 1; simp at k0 k1; clear ck; go_simp <;> with_reducible rfl) hHeld ?_; simp only [pqZ]
    refine tkI 6 15 rfl (by intro w hSw; obtain ⟨g0, g1, g2⟩ := HG.out _ (hSw).1; have ck := (HK.out _ (hSw).1).2; have k0 := ck 0; have k1 := ck 1; simp at k0 k1; clear ck; go_simp <;> with_reducible rfl) hHeld ?_; simp only [pqZ]
    refine tkI 7 16 rfl (by intro w hSw; obtain ⟨g0, g1, g2⟩ := HG.out _ (hSw).1; have ck := (HK.out _ (hSw).1).2; have k0 := ck 0; have k1 := ck 1; simp at k0 k1; clear ck; go_simp <;> with_reducible rfl) hHeld ?_; simp only [pqZ]
    refine tkI 8 17 rfl (by intro w hSw; obtain ⟨g0, g1, g2⟩ := HG.out _ (hSw).1; have ck := (HK.out _ (hSw).1).2; have k0 := ck 0; have k1 := ck 1; simp at k0 k1; clear ck; go_simp <;> with_reducible rfl) hHeld ?_; simp only [pqZ]
    refine tkI 9 18 rfl (by intro w hSw; obtain ⟨g0, g1, g2⟩ := HG.out _ (hSw).1; have ck := (HK.out _ (hSw).1).2; have k0 := ck 0; have k1 := ck 1; simp at k0 k1; clear ck; go_simp <;> with_reducible rfl) hHeld ?_; simp only [pqZ]
    refine tkI 10 19 rfl (by intro w hSw; obtain ⟨g0, g1, g2⟩ := HG.out _ (hSw).1; have ck := (HK.out _ (hSw).1).2; have k0 := ck 0; have k1 := ck 1; simp at k0 k1; clear ck; go_simp <;> with_reducible rfl) hHeld ?_; simp only [pqZ]
    refine rdZ 11 20 rfl (by kernel_rfl) (fun K hK => ?_)
    go_simp
    refine (r15less_any _ _ _ _ _).mono ?_
    rintro e u1 ⟨rfl, hk1⟩
    have hKeep := And.intro (since_step hHeld.1 hk1) (own_below hHeld.2 hk1)
    rw [HL.out]
    go_wp2_with fail
    refine hK.out _ _ (by (try dsimp only); exact hKeep) (fun hHeld => ?_); clear hK K hKeep; try simp only [pqZ]
    refine tkI 12 21 rfl (by intro w hSw; obtain ⟨g0, g1, g2⟩ := HG.out _ (hSw).1; have ck := (HK.out _ (hSw).1).2; have k0 := ck 0; have k1 := ck 1; simp at k0 k1; clear ck; go_simp <;> with_reducible rfl) hHeld ?_; simp only [pqZ]
    refine wpAnyH_done (by kernel_rfl) ?_ _
    obtain ⟨hB2, ho1⟩ := hHeld
    have hsz := hB2.size
    obtain ⟨g0, g1, g2⟩ := HG.out _ hB2
    go_wp2_with (first
     | (at_builtin; refine wpList_app rfl (.tmp 22) (.tmp 27) rfl EHd rfl rfl (ho1.alloc _) (m := 1) (news := [.int .i64 va, .int .i64 vc, .slice vt dL.length vC]) rfl (Sl.new_ _ _ _) (Hd.one ⟨va, vc, vt, dL.length, vC⟩) (by unfold maxLen; omega) (by omega) (by simp only [World.size_alloc]; omega) ?_; intro A2 c2 w2 hown2 hg2 hb2)
     | fail)
    go_roundw
    case rel => exact ⟨k + 1, A2, c2, by omega, by go_num, rfl, HN.out, by rw [HT.out]; exact hown2, (since_alloc hB2 _).trans hb2⟩
    case measure => simp [intOf]; omega
   | false =>
    have HE := Lib.hid (HX.out _ hah)
    have HL := Lib.hid hah
    simp only [Bool.false_eq_true, if_false] at HE
    clear HX hah
    by_cases h1 : va = a
    ·subst h1
     by_cases h2 : vc = c
     ·subst h2
      have HE : Hid (withH cs va vc L = cs.take k ++ [⟨va, vc, L⟩] ++ cs.drop (k + 1)) := Lib.hid (by have := HE.out; simpa using this)
      go_wp2_with fail
      refine wp_region_held_drew (S := (fun V => Below W.heap.size W V ∧ V.ownsRow W.heap.size 98 3 (.slice A' k c') k (rc Hd.cells (l.take k)))) (by kernel_rfl) (by exact ⟨hB.drew, own_below hown ((Below.refl _ _).drew)⟩) (fun hHeld => ?_)
      refine tkI 0 9 rfl (by intro w hSw; obtain ⟨g0, g1, g2⟩ := HG.out _ (hSw).1; have ck := (HK.out _ (hSw).1).2; have k0 := ck 0; have k1 := ck 1; simp at k0 k1; clear ck; go_simp <;> with_reducible rfl) hHeld ?_; simp only [pqZ]
      refine tkI 1 10 rfl (by intro w hSw; obtain ⟨g0, g1, g2⟩ := HG.out _ (hSw).1; have ck := (HK.out _ (hSw).1).2; have k0 := ck 0; have k1 := ck 1; simp at k0 k1; clear ck; go_simp <;> with_reducible rfl) hHeld ?_; simp only [pqZ]
      refine tkI 2 11 rfl (by intro w hSw; obtain ⟨g0, g1, g2⟩ := HG.out _ (hSw).1; have ck := (HK.out _ (hSw).1).2; have k0 := ck 0; have k1 := ck 1; simp at k0 k1; clear ck; go_simp <;> with_reducible rfl) hHeld ?_; simp only [pqZ]
      refine tkI 3 12 rfl (by intro w hSw; obtain ⟨g0, g1, g2⟩ := HG.out _ (hSw).1; have ck := (HK.out _ (hSw).1).2; have k0 := ck 0; have k1 := ck 1; simp at k0 k1; clear ck; go_simp <;> with_reducible rfl) hHeld ?_; simp only [pqZ]
      refine tkI 4 13 rfl (by intro w hSw; obtain ⟨g0, g1, g2⟩ := HG.out _ (hSw).1; have ck := (HK.out _ (hSw).1).2; have k0 := ck 0; have k1 := ck 1; simp at k0 k1; clear ck; go_simp <;> with_reducible rfl) hHeld ?_; simp only [pqZ]
      refine tkI 5 14 rfl (by intro w hSw; obtain ⟨g0, g1, g2⟩ := HG.out _ (hSw).1; have ck := (HK.out _ (hSw).1).2; have k0 := ck 0; have k1 := ck 1; simp at k0 k1; clear ck; go_simp <;> with_reducible rfl) hHeld ?_; simp only [pqZ]
      refine tkI 6 15 rfl (by intro w hSw; obtain ⟨g0, g1, g2⟩ := HG.out _ (hSw).1; have ck := (HK.out _ (hSw).1).2; have k0 := ck 0; have k1 := ck 1; simp at k0 k1; clear ck; go_simp <;> with_reducible rfl) hHeld ?_; simp only [pqZ]
      refine tkI 7 16 rfl (by intro w hSw; obtain ⟨g0, g1, g2⟩ := HG.out _ (hSw).1; have ck := (HK.out _ (hSw).1).2; have k0 := ck 0; have k1 := ck 1; simp at k0 k1; clear ck; go_simp <;> with_reducible rfl) hHeld ?_; simp only [pqZ]
      refine tkI 8 17 rfl (by intro w hSw; obtain ⟨g0, g1, g2⟩ := HG.out _ (hSw).1; have ck := (HK.out _ (hSw).1).2; have k0 := ck 0; have k1 := ck 1; simp at k0 k1; clear ck; go_simp <;> with_reducible rfl) hHeld ?_; simp only [pqZ]
      refine tkI 9 18 rfl (by intro w hSw; obtain ⟨g0, g1, g2⟩ := HG.out _ (hSw).1; have ck := (HK.out _ (hSw).1).2; have k0 := ck 0; have k1 := ck 1; simp at k0 k1; clear ck; go_simp <;> with_reducible rfl) hHeld ?_; simp only [pqZ]
      refine tkI 10 19 rfl (by intro w hSw; obtain ⟨g0, g1, g2⟩ := HG.out _ (hSw).1; have ck := (HK.out _ (hSw).1).2; have k0 := ck 0; have k1 := ck 1; simp at k0 k1; clear ck; go_simp <;> with_reducible rfl) hHeld ?_; simp only [pqZ]
      refine rdZ 11 20 rfl (by kernel_rfl) (fun K hK => ?_)
      go_simp
      refine (r15less_any _ _ _ _ _).mono ?_
      rintro e u1 ⟨rfl, hk1⟩
      have hKeep := And.intro (since_step hHeld.1 hk1) (own_below hHeld.2 hk1)
      rw [HL.out]
      go_wp2_with fail
      refine hK.out _ _ (by (try dsimp only); exact hKeep) (fun hHeld => ?_); clear hK K hKeep; try simp only [pqZ]
      refine tkI 12 21 rfl (by intro w hSw; obtain ⟨g0, g1, g2⟩ := HG.out _ (hSw).1; have ck := (HK.out _ (hSw).1).2; have k0 := ck 0; have k1 := ck 1; simp at k0 k1; clear ck; go_simp <;> with_reducible rfl) hHeld ?_; simp only [pqZ]
      refine wpAnyH_done (by kernel_rfl) ?_ _
      obtain ⟨hB2, ho1⟩ := hHeld
      have hsz := hB2.size
      have ck := (HK.out _ hB2).2
      have k0 := ck 0
      have k1 := ck 1
      simp at k0 k1
      clear ck
      go_upto_region 8 with (first
       | (at_builtin; refine wpList_app rfl (.tmp 34) (.tmp 38) rfl EHd rfl rfl (ho1.alloc _) (m := 1) (news := [.int .i64 va, .int .i64 vc, .slice LA L.length LC]) rfl (Sl.new_ _ _ _) (Hd.one ⟨va, vc, LA, L.length, LC⟩) (by unfold maxLen; omega) (by omega) (by have hz := hsz; (try simp only [World.size_alloc, World.size_drew] at hz ⊢); omega) ?_; intro A2 c2 w2 hown2 hg2 hb2)
       | fail)
      have hB8 := (since_alloc hB2 _).trans hb2
      have ho8 := hown2
      clear k0 k1
      refine wp_region_held_drew (S := (fun V => Below W.heap.size W V ∧ V.ownsRow W.heap.size 98 3 (.slice A2 (k + 1) c2) (k + 1) (rc Hd.cells (l.take k) ++ [.int .i64 va, .int .i64 vc, .slice LA L.length LC]))) (by kernel_rfl) (by exact ⟨hB8.drew, own_below ho8 ((Below.refl _ _).drew)⟩) (fun hHeld => ?_)
      refine tkI 0 40 rfl (by intro w hSw; obtain ⟨g0, g1, g2⟩ := HG.out _ (hSw).1; have ck := (HK.out _ (hSw).1).2; have k0 := ck 0; have k1 := ck 1; simp at k0 k1; clear ck; go_simp <;> with_reducible rfl) hHeld ?_; simp only [pqZ]
      refine tkI 1 41 rfl (by intro w hSw; obtain ⟨g0, g1, g2⟩ := HG.out _ (hSw).1; have ck := (HK.out _ (hSw).1).2; have k0 := ck 0; have k1 := ck 1; simp at k0 k1; clear ck; go_simp <;> with_reducible rfl) hHeld ?_; simp only [pqZ]
      refine tkI 2 42 rfl (by intro w hSw; obtain ⟨g0, g1, g2⟩ := HG.out _ (hSw).1; have ck := (HK.out _ (hSw).1).2; have k0 := ck 0; have k1 := ck 1; simp at k0 k1; clear ck; go_simp <;> with_reducible rfl) hHeld ?_; simp only [pqZ]
      refine tkI 3 43 rfl (by intro w hSw; obtain ⟨g0, g1, g2⟩ := HG.out _ (hSw).1; have ck := (HK.out _ (hSw).1).2; have k0 := ck 0; have k1 := ck 1; simp at k0 k1; clear ck; go_simp <;> with_reducible rfl) hHeld ?_; simp only [pqZ]
      refine tkI 4 44 rfl (by intro w hSw; obtain ⟨g0, g1, g2⟩ := HG.out _ (hSw).1; have ck := (HK.out _ (hSw).1).2; have k0 := ck 0; have k1 := ck 1; simp at k0 k1; clear ck; go_simp <;> with_reducible rfl) hHeld ?_; simp only [pqZ]
      refine tkI 5 45 rfl (by intro w hSw; obtain ⟨g0, g1, g2⟩ := HG.out _ (hSw).1; have ck := (HK.out _ (hSw).1).2; have k0 := ck 0; have k1 := ck 1; simp at k0 k1; clear ck; go_simp <;> with_reducible rfl) hHeld ?_; simp only [pqZ]
      refine tkI 6 46 rfl (by intro w hSw; obtain ⟨g0, g1, g2⟩ := HG.out _ (hSw).1; have ck := (HK.out _ (hSw).1).2; have k0 := ck 0; have k1 := ck 1; simp at k0 k1; clear ck; go_simp <;> with_reducible rfl) hHeld ?_; simp only [pqZ]
      refine tkI 7 47 rfl (by intro w hSw; obtain ⟨g0, g1, g2⟩ := HG.out _ (hSw).1; have ck := (HK.out _ (hSw).1).2; have k0 := ck 0; have k1 := ck 1; simp at k0 k1; clear ck; go_simp <;> with_reducible rfl) hHeld ?_; simp only [pqZ]
      refine tkI 8 48 rfl (by intro w hSw; obtain ⟨g0, g1, g2⟩ := HG.out _ (hSw).1; have ck := (HK.out _ (hSw).1).2; have k0 := ck 0; have k1 := ck 1; simp at k0 k1; clear ck; go_simp <;> with_reducible rfl) hHeld ?_; simp only [pqZ]
      refine tkI 9 49 rfl (by intro w hSw; obtain ⟨g0, g1, g2⟩ := HG.out _ (hSw).1; have ck := (HK.out _ (hSw).1).2; have k0 := ck 0; have k1 := ck 1; simp at k0 k1; clear ck; go_simp <;> with_reducible rfl) hHeld ?_; simp only [pqZ]
      refine tkI 10 50 rfl (by intro w hSw; obtain ⟨g0, g1, g2⟩ := HG.out _ (hSw).1; have ck := (HK.out _ (hSw).1).2; have k0 := ck 0; have k1 := ck 1; simp at k0 k1; clear ck; go_simp <;> with_reducible rfl) hHeld ?_; simp only [pqZ]
      refine tkI 11 51 rfl (by intro w hSw; obtain ⟨g0, g1, g2⟩ := HG.out _ (hSw).1; have ck := (HK.out _ (hSw).1).2; have k0 := ck 0; have k1 := ck 1; simp at k0 k1; clear ck; go_simp <;> with_reducible rfl) hHeld ?_; simp only [pqZ]
      refine tkI 12 52 rfl (by intro w hSw; obtain ⟨g0, g1, g2⟩ := HG.out _ (hSw).1; have ck := (HK.out _ (hSw).1).2; have k0 := ck 0; have k1 := ck 1; simp at k0 k1; clear ck; go_simp <;> with_reducible rfl) hHeld ?_; simp only [pqZ]
      refine wpAnyH_done (by kernel_rfl) ?_ _
      obtain ⟨hB9, ho9⟩ := hHeld
      have hsz9 := hB9.size
      have hKl : k + 1 ≤ l.length := by omega
      have hKi : (k : Int) + 1 ≤ (l.length : Int) := by omega
      have hK0 : (0 : Int) ≤ (k : Int) + 1 := by omega
      have hK3 : ((k : Int) + 1).toNat = k + 1 := by omega
      by_cases hlK : (k + 1) < l.length
      ·have hck : ¬ (cap = k + 1) := by omega
       have hkc : k + 1 ≤ cap := by omega
       go_wp2_with (first
        | (at_builtin; refine wpList_app rfl (.tmp 55) (.tmp 58) rfl EHd rfl rfl ho9 (m := l.length - (k + 1)) (news := rc Hd.cells (l.drop (k + 1))) (by rw [rc_length Hd.len, List.length_drop]) (by rw [← rc_drop Hd.len]; exact Sl.drop0 (HSL.out _ hB9)) (rc_one Hd.one _) (by unfold maxLen; omega) (by omega) (by have hz := hsz9; (try simp only [World.size_alloc, World.size_drew] at hz ⊢); omega) ?_; intro A4 c4 w5 hown4 hg4 hb4)
        | fail)
       have hBz := hB9.trans hb4
       have htz := ht0.below hBz
       have hel : (l.take k ++ [(⟨va, vc, LA, L.length, LC⟩ : Hd)] ++ l.drop (k + 1)).length = (k + 1) + (l.length - (k + 1)) := by simp; try omega
       have hel2 : (l.take k ++ [(⟨va, vc, LA, L.length, LC⟩ : Hd)] ++ l.drop (k + 1)).length = l.length := by simp; try omega
       go_ret
       refine ⟨⟨(l.take k ++ [(⟨va, vc, LA, L.length, LC⟩ : Hd)] ++ l.drop (k + 1)), A4, c4, by first | (rw [hel]; rfl) | (rw [hel2]; rfl) | (rw [hel, h0]; rfl) | (rw [hel]; simp [h0]; done), ?_, ?_, by rw [hel]; exact CapH.of_own hown4, (AtOr.own hown4).mono hWs, FarH.pieces (fun g h => by rw [List.mem_singleton.1 h]) _ _⟩, hB0.trans (hBz.mono hWs)⟩
       ·have h := Sl.of_own hown4
        have e : rc Hd.cells (l.take k ++ [(⟨va, vc, LA, L.length, LC⟩ : Hd)] ++ l.drop (k + 1)) = (rc Hd.cells (l.take k) ++ [.int .i64 va, .int .i64 vc, .slice LA L.length LC]) ++ rc Hd.cells (l.drop (k + 1)) := by simp only [rc_append, show rc Hd.cells ([] : List Hd) = [] from rfl, show rc Hd.cells [(⟨va, vc, LA, L.length, LC⟩ : Hd)] = [.int .i64 va, .int .i64 vc, .slice LA L.length LC] from rfl, List.append_nil, List.append_assoc]
        rw [e]; exact h
       ·rw [HE.out]
        exact HdTab.append (HdTab.append (htz.take k) (HdTab.cons.2 ⟨⟨rfl, rfl, rfl, HLS.out _ hBz⟩, HdTab.nil _⟩)) (htz.drop (k + 1))
      ·have hKe : k + 1 = l.length := by omega
       have HDR : Hid (cs.drop (k + 1) = []) := Lib.hid (by rw [hKe, HLC.out]; exact List.drop_length ..)
       by_cases hcr : cap = k + 1
       ·have hck2 : (cap == k + 1) = true := by simpa using hcr
        have hkc : k + 1 ≤ cap := by omega
        go_wp2_with (first
         | (at_builtin; refine wpList_app rfl (.tmp 55) (.tmp 58) rfl EHd rfl rfl ho9 (m := 0) (news := []) rfl Sl.nil (by intro u hu; cases hu) (by unfold maxLen; omega) (by omega) (by have hz := hsz9; (try simp only [World.size_alloc, World.size_drew] at hz ⊢); omega) ?_; intro A4 c4 w5 hown4 hg4 hb4)
         | fail)
        have hBz := hB9.trans hb4
        have htz := ht0.below hBz
        have hel : (l.take k ++ [(⟨va, vc, LA, L.length, LC⟩ : Hd)] ++ ([] : List Hd)).length = (k + 1) + (0) := by simp; try omega
        have hel2 : (l.take k ++ [(⟨va, vc, LA, L.length, LC⟩ : Hd)] ++ ([] : List Hd)).length = l.length := by simp; try omega
        go_ret
        refine ⟨⟨(l.take k ++ [(⟨va, vc, LA, L.length, LC⟩ : Hd)] ++ ([] : List Hd)), A4, c4, by first | (rw [hel]; rfl) | (rw [hel2]; rfl) | (rw [hel, h0]; rfl) | (rw [hel]; simp [h0]; done), ?_, ?_, by rw [hel]; exact CapH.of_own hown4, (AtOr.own hown4).mono hWs, FarH.pieces0 (fun g h => by rw [List.mem_singleton.1 h]) _⟩, hB0.trans (hBz.mono hWs)⟩
        ·have h := Sl.of_own hown4
         have e : rc Hd.cells (l.take k ++ [(⟨va, vc, LA, L.length, LC⟩ : Hd)] ++ ([] : List Hd)) = (rc Hd.cells (l.take k) ++ [.int .i64 va, .int .i64 vc, .slice LA L.length LC]) ++ [] := by simp only [rc_append, show rc Hd.cells ([] : List Hd) = [] from rfl, show rc Hd.cells [(⟨va, vc, LA, L.length, LC⟩ : Hd)] = [.int .i64 va, .int .i64 vc, .slice LA L.length LC] from rfl, List.append_nil, List.append_assoc]
         rw [e]; exact h
        ·rw [HE.out]
         exact HdTab.append (HdTab.append (htz.take k) (HdTab.cons.2 ⟨⟨rfl, rfl, rfl, HLS.out _ hBz⟩, HdTab.nil _⟩)) (by rw [HDR.out]; exact HdTab.nil _)
       ·have hck : ¬ (cap = k + 1) := hcr
        have hkc : k + 1 ≤ cap := by omega
        go_wp2_with (first
         | (at_builtin; refine wpList_app rfl (.tmp 55) (.tmp 58) rfl EHd rfl rfl ho9 (m := 0) (news := []) rfl Sl.nil (by intro u hu; cases hu) (by unfold maxLen; omega) (by omega) (by have hz := hsz9; (try simp only [World.size_alloc, World.size_drew] at hz ⊢); omega) ?_; intro A4 c4 w5 hown4 hg4 hb4)
         | fail)
        have hBz := hB9.trans hb4
        have htz := ht0.below hBz
        have hel : (l.take k ++ [(⟨va, vc, LA, L.length, LC⟩ : Hd)] ++ ([] : List Hd)).length = (k + 1) + (0) := by simp; try omega
        have hel2 : (l.take k ++ [(⟨va, vc, LA, L.length, LC⟩ : Hd)] ++ ([] : List Hd)).length = l.length := by simp; try omega
        go_ret
        refine ⟨⟨(l.take k ++ [(⟨va, vc, LA, L.length, LC⟩ : Hd)] ++ ([] : List Hd)), A4, c4, by first | (rw [hel]; rfl) | (rw [hel2]; rfl) | (rw [hel, h0]; rfl) | (rw [hel]; simp [h0]; done), ?_, ?_, by rw [hel]; exact CapH.of_own hown4, (AtOr.own hown4).mono hWs, FarH.pieces0 (fun g h => by rw [List.mem_singleton.1 h]) _⟩, hB0.trans (hBz.mono hWs)⟩
        ·have h := Sl.of_own hown4
         have e : rc Hd.cells (l.take k ++ [(⟨va, vc, LA, L.length, LC⟩ : Hd)] ++ ([] : List Hd)) = (rc Hd.cells (l.take k) ++ [.int .i64 va, .int .i64 vc, .slice LA L.length LC]) ++ [] := by simp only [rc_append, show rc Hd.cells ([] : List Hd) = [] from rfl, show rc Hd.cells [(⟨va, vc, LA, L.length, LC⟩ : Hd)] = [.int .i64 va, .int .i64 vc, .slice LA L.length LC] from rfl, List.append_nil, List.append_assoc]
         rw [e]; exact h
        ·rw [HE.out]
         exact HdTab.append (HdTab.append (htz.take k) (HdTab.cons.2 ⟨⟨rfl, rfl, rfl, HLS.out _ hBz⟩, HdTab.nil _⟩)) (by rw [HDR.out]; exact HdTab.nil _)
     ·have h2b : (vc == c) = false := by simpa using h2
      have HE : Hid (withH cs va c L = cs.take k ++ [⟨va, c, L⟩] ++ cs.drop k) := Lib.hid (by have := HE.out; simpa [h2] using this)
      clear h2
      go_wp2_with fail
      refine wp_region_held_drew (S := (fun V => Below W.heap.size W V ∧ V.ownsRow W.heap.size 98 3 (.slice A' k c') k (rc Hd.cells (l.take k)))) (by kernel_rfl) (by exact ⟨hB.drew, own_below hown ((Below.refl _ _).drew)⟩) (fun hHeld => ?_)
      refine tkI 0 9 rfl (by intro w hSw; obtain ⟨g0, g1, g2⟩ := HG.out _ (hSw).1; have ck := (HK.out _ (hSw).1).2; have k0 := ck 0; have k1 := ck 1; simp at k0 k1; clear ck; go_simp <;> with_reducible rfl) hHeld ?_; simp only [pqZ]
      refine tkI 1 10 rfl (by intro w hSw; obtain ⟨g0, g1, g2⟩ := HG.out _ (hSw).1; have ck := (HK.out _ (hSw).1).2; have k0 := ck 0; have k1 := ck 1; simp at k0 k1; clear ck; go_simp <;> with_reducible rfl) hHeld ?_; simp only [pqZ]
      refine tkI 2 11 rfl (by intro w hSw; obtain ⟨g0, g1, g2⟩ := HG.out _ (hSw).1; have ck := (HK.out _ (hSw).1).2; have k0 := ck 0; have k1 := ck 1; simp at k0 k1; clear ck; go_simp <;> with_reducible rfl) hHeld ?_; simp only [pqZ]
      refine tkI 3 12 rfl (by intro w hSw; obtain ⟨g0, g1, g2⟩ := HG.out _ (hSw).1; have ck := (HK.out _ (hSw).1).2; have k0 := ck 0; have k1 := ck 1; simp at k0 k1; clear ck; go_simp <;> with_reducible rfl) hHeld ?_; simp only [pqZ]
      refine tkI 4 13 rfl (by intro w hSw; obtain ⟨g0, g1, g2⟩ := HG.out _ (hSw).1; have ck := (HK.out _ (hSw).1).2; have k0 := ck 0; have k1 := ck 1; simp at k0 k1; clear ck; go_simp <;> with_reducible rfl) hHeld ?_; simp only [pqZ]
      refine tkI 5 14 rfl (by intro w hSw; obtain ⟨g0, g1, g2⟩ := HG.out _ (hSw).1; have ck := (HK.out _ (hSw).1).2; have k0 := ck 0; have k1 := ck 1; simp at k0 k1; clear ck; go_simp <;> with_reducible rfl) hHeld ?_; simp only [pqZ]
      refine tkI 6 15 rfl (by intro w hSw; obtain ⟨g0, g1, g2⟩ := HG.out _ (hSw).1; have ck := (HK.out _ (hSw).1).2; have k0 := ck 0; have k1 := ck 1; simp at k0 k1; clear ck; go_simp <;> with_reducible rfl) hHeld ?_; simp only [pqZ]
      refine tkI 7 16 rfl (by intro w hSw; obtain ⟨g0, g1, g2⟩ := HG.out _ (hSw).1; have ck := (HK.out _ (hSw).1).2; have k0 := ck 0; have k1 := ck 1; simp at k0 k1; clear ck; go_simp <;> with_reducible rfl) hHeld ?_; simp only [pqZ]
      refine tkI 8 17 rfl (by intro w hSw; obtain ⟨g0, g1, g2⟩ := HG.out _ (hSw).1; have ck := (HK.out _ (hSw).1).2; have k0 := ck 0; have k1 := ck 1; simp at k0 k1; clear ck; go_simp <;> with_reducible rfl) hHeld ?_; simp only [pqZ]
      refine tkI 9 18 rfl (by intro w hSw; obtain ⟨g0, g1, g2⟩ := HG.out _ (hSw).1; have ck := (HK.out _ (hSw).1).2; have k0 := ck 0; have k1 := ck 1; simp at k0 k1; clear ck; go_simp <;> with_reducible rfl) hHeld ?_; simp only [pqZ]
      refine tkI 10 19 rfl (by intro w hSw; obtain ⟨g0, g1, g2⟩ := HG.out _ (hSw).1; have ck := (HK.out _ (hSw).1).2; have k0 := ck 0; have k1 := ck 1; simp at k0 k1; clear ck; go_simp <;> with_reducible rfl) hHeld ?_; simp only [pqZ]
      refine rdZ 11 20 rfl (by kernel_rfl) (fun K hK => ?_)
      go_simp
      refine (r15less_any _ _ _ _ _).mono ?_
      rintro e u1 ⟨rfl, hk1⟩
      have hKeep := And.intro (since_step hHeld.1 hk1) (own_below hHeld.2 hk1)
      rw [HL.out]
      go_wp2_with fail
      refine hK.out _ _ (by (try dsimp only); exact hKeep) (fun hHeld => ?_); clear hK K hKeep; try simp only [pqZ]
      refine tkI 12 21 rfl (by intro w hSw; obtain ⟨g0, g1, g2⟩ := HG.out _ (hSw).1; have ck := (HK.out _ (hSw).1).2; have k0 := ck 0; have k1 := ck 1; simp at k0 k1; clear ck; go_simp <;> with_reducible rfl) hHeld ?_; simp only [pqZ]
      refine wpAnyH_done (by kernel_rfl) ?_ _
      obtain ⟨hB2, ho1⟩ := hHeld
      have hsz := hB2.size
      have ck := (HK.out _ hB2).2
      have k0 := ck 0
      have k1 := ck 1
      simp at k0 k1
      clear ck
      go_upto_region 8 with (first
       | (at_builtin; refine wpList_app rfl (.tmp 34) (.tmp 38) rfl EHd rfl rfl (ho1.alloc _) (m := 1) (news := [.int .i64 va, .int .i64 c, .slice LA L.length LC]) rfl (Sl.new_ _ _ _) (Hd.one ⟨va, c, LA, L.length, LC⟩) (by unfold maxLen; omega) (by omega) (by have hz := hsz; (try simp only [World.size_alloc, World.size_drew] at hz ⊢); omega) ?_; intro A2 c2 w2 hown2 hg2 hb2)
       | fail)
      have hB8 := (since_alloc hB2 _).trans hb2
      have ho8 := hown2
      clear k0 k1
      refine wp_region_held_drew (S := (fun V => Below W.heap.size W V ∧ V.ownsRow W.heap.size 98 3 (.slice A2 (k + 1) c2) (k + 1) (rc Hd.cells (l.take k) ++ [.int .i64 va, .int .i64 c, .slice LA L.length LC]))) (by kernel_rfl) (by exact ⟨hB8.drew, own_below ho8 ((Below.refl _ _).drew)⟩) (fun hHeld => ?_)
      refine tkI 0 40 rfl (by intro w hSw; obtain ⟨g0, g1, g2⟩ := HG.out _ (hSw).1; have ck := (HK.out _ (hSw).1).2; have k0 := ck 0; have k1 := ck 1; simp at k0 k1; clear ck; go_simp <;> with_reducible rfl) hHeld ?_; simp only [pqZ]
      refine tkI 1 41 rfl (by intro w hSw; obtain ⟨g0, g1, g2⟩ := HG.out _ (hSw).1; have ck := (HK.out _ (hSw).1).2; have k0 := ck 0; have k1 := ck 1; simp at k0 k1; clear ck; go_simp <;> with_reducible rfl) hHeld ?_; simp only [pqZ]
      refine tkI 2 42 rfl (by intro w hSw; obtain ⟨g0, g1, g2⟩ := HG.out _ (hSw).1; have ck := (HK.out _ (hSw).1).2; have k0 := ck 0; have k1 := ck 1; simp at k0 k1; clear ck; go_simp <;> with_reducible rfl) hHeld ?_; simp only [pqZ]
      refine tkI 3 43 rfl (by intro w hSw; obtain ⟨g0, g1, g2⟩ := HG.out _ (hSw).1; have ck := (HK.out _ (hSw).1).2; have k0 := ck 0; have k1 := ck 1; simp at k0 k1; clear ck; go_simp <;> with_reducible rfl) hHeld ?_; simp only [pqZ]
      refine tkI 4 44 rfl (by intro w hSw; obtain ⟨g0, g1, g2⟩ := HG.out _ (hSw).1; have ck := (HK.out _ (hSw).1).2; have k0 := ck 0; have k1 := ck 1; simp at k0 k1; clear ck; go_simp <;> with_reducible rfl) hHeld ?_; simp only [pqZ]
      refine tkI 5 45 rfl (by intro w hSw; obtain ⟨g0, g1, g2⟩ := HG.out _ (hSw).1; have ck := (HK.out _ (hSw).1).2; have k0 := ck 0; have k1 := ck 1; simp at k0 k1; clear ck; go_simp <;> with_reducible rfl) hHeld ?_; simp only [pqZ]
      refine tkI 6 46 rfl (by intro w hSw; obtain ⟨g0, g1, g2⟩ := HG.out _ (hSw).1; have ck := (HK.out _ (hSw).1).2; have k0 := ck 0; have k1 := ck 1; simp at k0 k1; clear ck; go_simp <;> with_reducible rfl) hHeld ?_; simp only [pqZ]
      refine tkI 7 47 rfl (by intro w hSw; obtain ⟨g0, g1, g2⟩ := HG.out _ (hSw).1; have ck := (HK.out _ (hSw).1).2; have k0 := ck 0; have k1 := ck 1; simp at k0 k1; clear ck; go_simp <;> with_reducible rfl) hHeld ?_; simp only [pqZ]
      refine tkI 8 48 rfl (by intro w hSw; obtain ⟨g0, g1, g2⟩ := HG.out _ (hSw).1; have ck := (HK.out _ (hSw).1).2; have k0 := ck 0; have k1 := ck 1; simp at k0 k1; clear ck; go_simp <;> with_reducible rfl) hHeld ?_; simp only [pqZ]
      refine tkI 9 49 rfl (by intro w hSw; obtain ⟨g0, g1, g2⟩ := HG.out _ (hSw).1; have ck := (HK.out _ (hSw).1).2; have k0 := ck 0; have k1 := ck 1; simp at k0 k1; clear ck; go_simp <;> with_reducible rfl) hHeld ?_; simp only [pqZ]
      refine tkI 10 50 rfl (by intro w hSw; obtain ⟨g0, g1, g2⟩ := HG.out _ (hSw).1; have ck := (HK.out _ (hSw).1).2; have k0 := ck 0; have k1 := ck 1; simp at k0 k1; clear ck; go_simp <;> with_reducible rfl) hHeld ?_; simp only [pqZ]
      refine tkI 11 51 rfl (by intro w hSw; obtain ⟨g0, g1, g2⟩ := HG.out _ (hSw).1; have ck := (HK.out _ (hSw).1).2; have k0 := ck 0; have k1 := ck 1; simp at k0 k1; clear ck; go_simp <;> with_reducible rfl) hHeld ?_; simp only [pqZ]
      refine tkI 12 52 rfl (by intro w hSw; obtain ⟨g0, g1, g2⟩ := HG.out _ (hSw).1; have ck := (HK.out _ (hSw).1).2; have k0 := ck 0; have k1 := ck 1; simp at k0 k1; clear ck; go_simp <;> with_reducible rfl) hHeld ?_; simp only [pqZ]
      refine wpAnyH_done (by kernel_rfl) ?_ _
      obtain ⟨hB9, ho9⟩ := hHeld
      have hsz9 := hB9.size
      have hck : ¬ (cap = k) := by omega
      have hkc : k ≤ cap := by omega
      go_wp2_with (first
       | (at_builtin; refine wpList_app rfl (.tmp 55) (.tmp 58) rfl EHd rfl rfl ho9 (m := l.length - k) (news := rc Hd.cells (l.drop k)) (by rw [rc_length Hd.len, List.length_drop]) (by rw [← rc_drop Hd.len]; exact Sl.drop0 (HSL.out _ hB9)) (rc_one Hd.one _) (by unfold maxLen; omega) (by omega) (by have hz := hsz9; (try simp only [World.size_alloc, World.size_drew] at hz ⊢); omega) ?_; intro A4 c4 w5 hown4 hg4 hb4)
       | fail)
      have hBz := hB9.trans hb4
      have htz := ht0.below hBz
      have hel : (l.take k ++ [(⟨va, c, LA, L.length, LC⟩ : Hd)] ++ l.drop k).length = (k + 1) + (l.length - k) := by simp; try omega
      have hel2 : (l.take k ++ [(⟨va, c, LA, L.length, LC⟩ : Hd)] ++ l.drop k).length = (k + 1) + (l.length - k) := by simp; try omega
      go_ret
      refine ⟨⟨(l.take k ++ [(⟨va, c, LA, L.length, LC⟩ : Hd)] ++ l.drop k), A4, c4, by first | (rw [hel]; rfl) | (rw [hel2]; rfl) | (rw [hel, h0]; rfl) | (rw [hel]; simp [h0]; done), ?_, ?_, by rw [hel]; exact CapH.of_own hown4, (AtOr.own hown4).mono hWs, FarH.pieces (fun g h => by rw [List.mem_singleton.1 h]) _ _⟩, hB0.trans (hBz.mono hWs)⟩
      ·have h := Sl.of_own hown4
       have e : rc Hd.cells (l.take k ++ [(⟨va, c, LA, L.length, LC⟩ : Hd)] ++ l.drop k) = (rc Hd.cells (l.take k) ++ [.int .i64 va, .int .i64 c, .slice LA L.length LC]) ++ rc Hd.cells (l.drop k) := by simp only [rc_append, show rc Hd.cells ([] : List Hd) = [] from rfl, show rc Hd.cells [(⟨va, c, LA, L.length, LC⟩ : Hd)] = [.int .i64 va, .int .i64 c, .slice LA L.length LC] from rfl, List.append_nil, List.append_assoc]
       rw [e]; exact h
      ·rw [HE.out]
       exact HdTab.append (HdTab.append (htz.take k) (HdTab.cons.2 ⟨⟨rfl, rfl, rfl, HLS.out _ hBz⟩, HdTab.nil _⟩)) (htz.drop k)
    ·have h1b : (va == a) = false := by simpa using h1
     have HE : Hid (withH cs a c L = cs.take k ++ [⟨a, c, L⟩] ++ cs.drop k) := Lib.hid (by have := HE.out; simpa [h1] using this)
     clear h1
     go_wp2_with fail
     refine wp_region_held_drew (S := (fun V => Below W.heap.size W V ∧ V.ownsRow W.heap.size 98 3 (.slice A' k c') k (rc Hd.cells (l.take k)))) (by kernel_rfl) (by exact ⟨hB.drew, own_below hown ((Below.refl _ _).drew)⟩) (fun hHeld => ?_)
     refine tkI 0 9 rfl (by intro w hSw; obtain ⟨g0, g1, g2⟩ := HG.out _ (hSw).1; have ck := (HK.out _ (hSw).1).2; have k0 := ck 0; have k1 := ck 1; simp at k0 k1; clear ck; go_simp <;> with_reducible rfl) hHeld ?_; simp only [pqZ]
     refine tkI 1 10 rfl (by intro w hSw; obtain ⟨g0, g1, g2⟩ := HG.out _ (hSw).1; have ck := (HK.out _ (hSw).1).2; have k0 := ck 0; have k1 := ck 1; simp at k0 k1; clear ck; go_simp <;> with_reducible rfl) hHeld ?_; simp only [pqZ]
     refine tkI 2 11 rfl (by intro w hSw; obtain ⟨g0, g1, g2⟩ := HG.out _ (hSw).1; have ck := (HK.out _ (hSw).1).2; have k0 := ck 0; have k1 := ck 1; simp at k0 k1; clear ck; go_simp <;> with_reducible rfl) hHeld ?_; simp only [pqZ]
     refine tkI 3 12 rfl (by intro w hSw; obtain ⟨g0, g1, g2⟩ := HG.out _ (hSw).1; have ck := (HK.out _ (hSw).1).2; have k0 := ck 0; have k1 := ck 1; simp at k0 k1; clear ck; go_simp <;> with_reducible rfl) hHeld ?_; simp only [pqZ]
     refine tkI 4 13 rfl (by intro w hSw; obtain ⟨g0, g1, g2⟩ := HG.out _ (hSw).1; have ck := (HK.out _ (hSw).1).2; have k0 := ck 0; have k1 := ck 1; simp at k0 k1; clear ck; go_simp <;> with_reducible rfl) hHeld ?_; simp only [pqZ]
     refine tkI 5 14 rfl (by intro w hSw; obtain ⟨g0, g1, g2⟩ := HG.out _ (hSw).1; have ck := (HK.out _ (hSw).1).2; have k0 := ck 0; have k1 := ck 1; simp at k0 k1; clear ck; go_simp <;> with_reducible rfl) hHeld ?_; simp only [pqZ]
     refine tkI 6 15 rfl (by intro w hSw; obtain ⟨g0, g1, g2⟩ := HG.out _ (hSw).1; have ck := (HK.out _ (hSw).1).2; have k0 := ck 0; have k1 := ck 1; simp at k0 k1; clear ck; go_simp <;> with_reducible rfl) hHeld ?_; simp only [pqZ]
     refine tkI 7 16 rfl (by intro w hSw; obtain ⟨g0, g1, g2⟩ := HG.out _ (hSw).1; have ck := (HK.out _ (hSw).1).2; have k0 := ck 0; have k1 := ck 1; simp at k0 k1; clear ck; go_simp <;> with_reducible rfl) hHeld ?_; simp only [pqZ]
     refine tkI 8 17 rfl (by intro w hSw; obtain ⟨g0, g1, g2⟩ := HG.out _ (hSw).1; have ck := (HK.out _ (hSw).1).2; have k0 := ck 0; have k1 := ck 1; simp at k0 k1; clear ck; go_simp <;> with_reducible rfl) hHeld ?_; simp only [pqZ]
     refine tkI 9 18 rfl (by intro w hSw; obtain ⟨g0, g1, g2⟩ := HG.out _ (hSw).1; have ck := (HK.out _ (hSw).1).2; have k0 := ck 0; have k1 := ck 1; simp at k0 k1; clear ck; go_simp <;> with_reducible rfl) hHeld ?_; simp only [pqZ]
     refine tkI 10 19 rfl (by intro w hSw; obtain ⟨g0, g1, g2⟩ := HG.out _ (hSw).1; have ck := (HK.out _ (hSw).1).2; have k0 := ck 0; have k1 := ck 1; simp at k0 k1; clear ck; go_simp <;> with_reducible rfl) hHeld ?_; simp only [pqZ]
     refine rdZ 11 20 rfl (by kernel_rfl) (fun K hK => ?_)
     go_simp
     refine (r15less_any _ _ _ _ _).mono ?_
     rintro e u1 ⟨rfl, hk1⟩
     have hKeep := And.intro (since_step hHeld.1 hk1) (own_below hHeld.2 hk1)
     rw [HL.out]
     go_wp2_with fail
     refine hK.out _ _ (by (try dsimp only); exact hKeep) (fun hHeld => ?_); clear hK K hKeep; try simp only [pqZ]
     refine tkI 12 21 rfl (by intro w hSw; obtain ⟨g0, g1, g2⟩ := HG.out _ (hSw).1; have ck := (HK.out _ (hSw).1).2; have k0 := ck 0; have k1 := ck 1; simp at k0 k1; clear ck; go_simp <;> with_reducible rfl) hHeld ?_; simp only [pqZ]
     refine wpAnyH_done (by kernel_rfl) ?_ _
     obtain ⟨hB2, ho1⟩ := hHeld
     have hsz := hB2.size
     have ck := (HK.out _ hB2).2
     have k0 := ck 0
     have k1 := ck 1
     simp at k0 k1
     clear ck
     go_upto_region 8 with (first
      | (at_builtin; refine wpList_app rfl (.tmp 34) (.tmp 38) rfl EHd rfl rfl (ho1.alloc _) (m := 1) (news := [.int .i64 a, .int .i64 c, .slice LA L.length LC]) rfl (Sl.new_ _ _ _) (Hd.one ⟨a, c, LA, L.length, LC⟩) (by unfold maxLen; omega) (by omega) (by have hz := hsz; (try simp only [World.size_alloc, World.size_drew] at hz ⊢); omega) ?_; intro A2 c2 w2 hown2 hg2 hb2)
      | fail)
     have hB8 := (since_alloc hB2 _).trans hb2
     have ho8 := hown2
     clear k0 k1
     refine wp_region_held_drew (S := (fun V => Below W.heap.size W V ∧ V.ownsRow W.heap.size 98 3 (.slice A2 (k + 1) c2) (k + 1) (rc Hd.cells (l.take k) ++ [.int .i64 a, .int .i64 c, .slice LA L.length LC]))) (by kernel_rfl) (by exact ⟨hB8.drew, own_below ho8 ((Below.refl _ _).drew)⟩) (fun hHeld => ?_)
     refine tkI 0 40 rfl (by intro w hSw; obtain ⟨g0, g1, g2⟩ := HG.out _ (hSw).1; have ck := (HK.out _ (hSw).1).2; have k0 := ck 0; have k1 := ck 1; simp at k0 k1; clear ck; go_simp <;> with_reducible rfl) hHeld ?_; simp only [pqZ]
     refine tkI 1 41 rfl (by intro w hSw; obtain ⟨g0, g1, g2⟩ := HG.out _ (hSw).1; have ck := (HK.out _ (hSw).1).2; have k0 := ck 0; have k1 := ck 1; simp at k0 k1; clear ck; go_simp <;> with_reducible rfl) hHeld ?_; simp only [pqZ]
     refine tkI 2 42 rfl (by intro w hSw; obtain ⟨g0, g1, g2⟩ := HG.out _ (hSw).1; have ck := (HK.out _ (hSw).1).2; have k0 := ck 0; have k1 := ck 1; simp at k0 k1; clear ck; go_simp <;> with_reducible rfl) hHeld ?_; simp only [pqZ]
     refine tkI 3 43 rfl (by intro w hSw; obtain ⟨g0, g1, g2⟩ := HG.out _ (hSw).1; have ck := (HK.out _ (hSw).1).2; have k0 := ck 0; have k1 := ck 1; simp at k0 k1; clear ck; go_simp <;> with_reducible rfl) hHeld ?_; simp only [pqZ]
     refine tkI 4 44 rfl (by intro w hSw; obtain ⟨g0, g1, g2⟩ := HG.out _ (hSw).1; have ck := (HK.out _ (hSw).1).2; have k0 := ck 0; have k1 := ck 1; simp at k0 k1; clear ck; go_simp <;> with_reducible rfl) hHeld ?_; simp only [pqZ]
     refine tkI 5 45 rfl (by intro w hSw; obtain ⟨g0, g1, g2⟩ := HG.out _ (hSw).1; have ck := (HK.out _ (hSw).1).2; have k0 := ck 0; have k1 := ck 1; simp at k0 k1; clear ck; go_simp <;> with_reducible rfl) hHeld ?_; simp only [pqZ]
     refine tkI 6 46 rfl (by intro w hSw; obtain ⟨g0, g1, g2⟩ := HG.out _ (hSw).1; have ck := (HK.out _ (hSw).1).2; have k0 := ck 0; have k1 := ck 1; simp at k0 k1; clear ck; go_simp <;> with_reducible rfl) hHeld ?_; simp only [pqZ]
     refine tkI 7 47 rfl (by intro w hSw; obtain ⟨g0, g1, g2⟩ := HG.out _ (hSw).1; have ck := (HK.out _ (hSw).1).2; have k0 := ck 0; have k1 := ck 1; simp at k0 k1; clear ck; go_simp <;> with_reducible rfl) hHeld ?_; simp only [pqZ]
     refine tkI 8 48 rfl (by intro w hSw; obtain ⟨g0, g1, g2⟩ := HG.out _ (hSw).1; have ck := (HK.out _ (hSw).1).2; have k0 := ck 0; have k1 := ck 1; simp at k0 k1; clear ck; go_simp <;> with_reducible rfl) hHeld ?_; simp only [pqZ]
     refine tkI 9 49 rfl (by intro w hSw; obtain ⟨g0, g1, g2⟩ := HG.out _ (hSw).1; have ck := (HK.out _ (hSw).1).2; have k0 := ck 0; have k1 := ck 1; simp at k0 k1; clear ck; go_simp <;> with_reducible rfl) hHeld ?_; simp only [pqZ]
     refine tkI 10 50 rfl (by intro w hSw; obtain ⟨g0, g1, g2⟩ := HG.out _ (hSw).1; have ck := (HK.out _ (hSw).1).2; have k0 := ck 0; have k1 := ck 1; simp at k0 k1; clear ck; go_simp <;> with_reducible rfl) hHeld ?_; simp only [pqZ]
     refine tkI 11 51 rfl (by intro w hSw; obtain ⟨g0, g1, g2⟩ := HG.out _ (hSw).1; have ck := (HK.out _ (hSw).1).2; have k0 := ck 0; have k1 := ck 1; simp at k0 k1; clear ck; go_simp <;> with_reducible rfl) hHeld ?_; simp only [pqZ]
     refine tkI 12 52 rfl (by intro w hSw; obtain ⟨g0, g1, g2⟩ := HG.out _ (hSw).1; have ck := (HK.out _ (hSw).1).2; have k0 := ck 0; have k1 := ck 1; simp at k0 k1; clear ck; go_simp <;> with_reducible rfl) hHeld ?_; simp only [pqZ]
     refine wpAnyH_done (by kernel_rfl) ?_ _
     obtain ⟨hB9, ho9⟩ := hHeld
     have hsz9 := hB9.size
     have hck : ¬ (cap = k) := by omega
     have hkc : k ≤ cap := by omega
     go_wp2_with (first
      | (at_builtin; refine wpList_app rfl (.tmp 55) (.tmp 58) rfl EHd rfl rfl ho9 (m := l.length - k) (news := rc Hd.cells (l.drop k)) (by rw [rc_length Hd.len, List.length_drop]) (by rw [← rc_drop Hd.len]; exact Sl.drop0 (HSL.out _ hB9)) (rc_one Hd.one _) (by unfold maxLen; omega) (by omega) (by have hz := hsz9; (try simp only [World.size_alloc, World.size_drew] at hz ⊢); omega) ?_; intro A4 c4 w5 hown4 hg4 hb4)
      | fail)
     have hBz := hB9.trans hb4
     have htz := ht0.below hBz
     have hel : (l.take k ++ [(⟨a, c, LA, L.length, LC⟩ : Hd)] ++ l.drop k).length = (k + 1) + (l.length - k) := by simp; try omega
     have hel2 : (l.take k ++ [(⟨a, c, LA, L.length, LC⟩ : Hd)] ++ l.drop k).length = (k + 1) + (l.length - k) := by simp; try omega
     go_ret
     refine ⟨⟨(l.take k ++ [(⟨a, c, LA, L.length, LC⟩ : Hd)] ++ l.drop k), A4, c4, by first | (rw [hel]; rfl) | (rw [hel2]; rfl) | (rw [hel, h0]; rfl) | (rw [hel]; simp [h0]; done), ?_, ?_, by rw [hel]; exact CapH.of_own hown4, (AtOr.own hown4).mono hWs, FarH.pieces (fun g h => by rw [List.mem_singleton.1 h]) _ _⟩, hB0.trans (hBz.mono hWs)⟩
     ·have h := Sl.of_own hown4
      have e : rc Hd.cells (l.take k ++ [(⟨a, c, LA, L.length, LC⟩ : Hd)] ++ l.drop k) = (rc Hd.cells (l.take k) ++ [.int .i64 a, .int .i64 c, .slice LA L.length LC]) ++ rc Hd.cells (l.drop k) := by simp only [rc_append, show rc Hd.cells ([] : List Hd) = [] from rfl, show rc Hd.cells [(⟨a, c, LA, L.length, LC⟩ : Hd)] = [.int .i64 a, .int .i64 c, .slice LA L.length LC] from rfl, List.append_nil, List.append_assoc]
      rw [e]; exact h
     ·rw [HE.out]
      exact HdTab.append (HdTab.append (htz.take k) (HdTab.cons.2 ⟨⟨rfl, rfl, rfl, HLS.out _ hBz⟩, HdTab.nil _⟩)) (htz.drop k)
  ·obtain rfl : k = l.length := by omega
   have HE : Hid (withH cs a c L = cs.take l.length ++ [⟨a, c, L⟩] ++ cs.drop l.length) := Lib.hid (by
    have h := HWC.out l.length (by rw [HLC.out]; exact Nat.le_refl _) hno (fun h => absurd h (by rw [HLC.out]; exact Nat.lt_irrefl _))
    rw [dif_neg (by rw [HLC.out]; exact Nat.lt_irrefl _)] at h
    exact h)
   clear hno HWC
   go_wp2_with fail
   refine wp_region_held_drew (S := (fun V => Below W.heap.size W V ∧ V.ownsRow W.heap.size 98 3 (.slice A' l.length c') l.length (rc Hd.cells (l.take l.length)))) (by kernel_rfl) (by exact ⟨hB.drew, own_below hown ((Below.refl _ _).drew)⟩) (fun hHeld => ?_)
   refine tkI 0 9 rfl (by intro w hSw; have ck := (HK.out _ (hSw).1).2; have k0 := ck 0; have k1 := ck 1; simp at k0 k1; clear ck; go_simp <;> with_reducible rfl) hHeld ?_; simp only [pqZ]
   refine tkI 1 10 rfl (by intro w hSw; have ck := (HK.out _ (hSw).1).2; have k0 := ck 0; have k1 := ck 1; simp at k0 k1; clear ck; go_simp <;> with_reducible rfl) hHeld ?_; simp only [pqZ]
   refine tkI 2 11 rfl (by intro w hSw; have ck := (HK.out _ (hSw).1).2; have k0 := ck 0; have k1 := ck 1; simp at k0 k1; clear ck; go_simp <;> with_reducible rfl) hHeld ?_; simp only [pqZ]
   refine tkI 3 12 rfl (by intro w hSw; have ck := (HK.out _ (hSw).1).2; have k0 := ck 0; have k1 := ck 1; simp at k0 k1; clear ck; go_simp <;> with_reducible rfl) hHeld ?_; simp only [pqZ]
   refine tkI 4 13 rfl (by intro w hSw; have ck := (HK.out _ (hSw).1).2; have k0 := ck 0; have k1 := ck 1; simp at k0 k1; clear ck; go_simp <;> with_reducible rfl) hHeld ?_; simp only [pqZ]
   refine tkO 5 14 rfl (by kernel_rfl) (by rfl) hHeld ?_; simp only [pqZ]
   refine tkO 6 15 rfl (by kernel_rfl) (by rfl) hHeld ?_; simp only [pqZ]
   refine tkO 7 16 rfl (by kernel_rfl) (by rfl) hHeld ?_; simp only [pqZ]
   refine tkO 8 17 rfl (by kernel_rfl) (by rfl) hHeld ?_; simp only [pqZ]
   refine tkO 9 18 rfl (by kernel_rfl) (by rfl) hHeld ?_; simp only [pqZ]
   refine tkO 10 19 rfl (by kernel_rfl) (by rfl) hHeld ?_; simp only [pqZ]
   refine tkO 11 20 rfl (by kernel_rfl) (by rfl) hHeld ?_; simp only [pqZ]
   refine tkI 12 21 rfl (by intro w hSw; have ck := (HK.out _ (hSw).1).2; have k0 := ck 0; have k1 := ck 1; simp at k0 k1; clear ck; go_simp <;> with_reducible rfl) hHeld ?_; simp only [pqZ]
   refine wpAnyH_done (by kernel_rfl) ?_ _
   obtain ⟨hB2, ho1⟩ := hHeld
   have hsz := hB2.size
   have ck := (HK.out _ hB2).2
   have k0 := ck 0
   have k1 := ck 1
   simp at k0 k1
   clear ck
   go_upto_region 8 with (first
    | (at_builtin; refine wpList_app rfl (.tmp 34) (.tmp 38) rfl EHd rfl rfl (ho1.alloc _) (m := 1) (news := [.int .i64 a, .int .i64 c, .slice LA L.length LC]) rfl (Sl.new_ _ _ _) (Hd.one ⟨a, c, LA, L.length, LC⟩) (by unfold maxLen; omega) (by omega) (by have hz := hsz; (try simp only [World.size_alloc, World.size_drew] at hz ⊢); omega) ?_; intro A2 c2 w2 hown2 hg2 hb2)
    | fail)
   have hB8 := (since_alloc hB2 _).trans hb2
   have ho8 := hown2
   clear k0 k1
   refine wp_region_held_drew (S := (fun V => Below W.heap.size W V ∧ V.ownsRow W.heap.size 98 3 (.slice A2 (l.length + 1) c2) (l.length + 1) (rc Hd.cells (l.take l.length) ++ [.int .i64 a, .int .i64 c, .slice LA L.length LC]))) (by kernel_rfl) (by exact ⟨hB8.drew, own_below ho8 ((Below.refl _ _).drew)⟩) (fun hHeld => ?_)
   refine tkI 0 40 rfl (by intro w hSw; have ck := (HK.out _ (hSw).1).2; have k0 := ck 0; have k1 := ck 1; simp at k0 k1; clear ck; go_simp <;> with_reducible rfl) hHeld ?_; simp only [pqZ]
   refine tkI 1 41 rfl (by intro w hSw; have ck := (HK.out _ (hSw).1).2; have k0 := ck 0; have k1 := ck 1; simp at k0 k1; clear ck; go_simp <;> with_reducible rfl) hHeld ?_; simp only [pqZ]
   refine tkI 2 42 rfl (by intro w hSw; have ck := (HK.out _ (hSw).1).2; have k0 := ck 0; have k1 := ck 1; simp at k0 k1; clear ck; go_simp <;> with_reducible rfl) hHeld ?_; simp only [pqZ]
   refine tkI 3 43 rfl (by intro w hSw; have ck := (HK.out _ (hSw).1).2; have k0 := ck 0; have k1 := ck 1; simp at k0 k1; clear ck; go_simp <;> with_reducible rfl) hHeld ?_; simp only [pqZ]
   refine tkI 4 44 rfl (by intro w hSw; have ck := (HK.out _ (hSw).1).2; have k0 := ck 0; have k1 := ck 1; simp at k0 k1; clear ck; go_simp <;> with_reducible rfl) hHeld ?_; simp only [pqZ]
   refine tkO 5 45 rfl (by kernel_rfl) (by rfl) hHeld ?_; simp only [pqZ]
   refine tkO 6 46 rfl (by kernel_rfl) (by rfl) hHeld ?_; simp only [pqZ]
   refine tkO 7 47 rfl (by kernel_rfl) (by rfl) hHeld ?_; simp only [pqZ]
   refine tkO 8 48 rfl (by kernel_rfl) (by rfl) hHeld ?_; simp only [pqZ]
   refine tkO 9 49 rfl (by kernel_rfl) (by rfl) hHeld ?_; simp only [pqZ]
   refine tkO 10 50 rfl (by kernel_rfl) (by rfl) hHeld ?_; simp only [pqZ]
   refine tkO 11 51 rfl (by kernel_rfl) (by rfl) hHeld ?_; simp only [pqZ]
   refine tkI 12 52 rfl (by intro w hSw; have ck := (HK.out _ (hSw).1).2; have k0 := ck 0; have k1 := ck 1; simp at k0 k1; clear ck; go_simp <;> with_reducible rfl) hHeld ?_; simp only [pqZ]
   refine wpAnyH_done (by kernel_rfl) ?_ _
   obtain ⟨hB9, ho9⟩ := hHeld
   have hsz9 := hB9.size
   have HDR : Hid (cs.drop l.length = []) := Lib.hid (by rw [HLC.out]; exact List.drop_length ..)
   rcases HCA.out with ⟨rfl, h0, hc0⟩ | ⟨b, rfl, hcap1, hcap2⟩
   ·have hcr : cap = l.length := by omega
    subst hcr
    go_wp2_with (first
     | (at_builtin; refine wpList_app rfl (.tmp 55) (.tmp 58) rfl EHd rfl rfl ho9 (m := 0) (news := []) rfl Sl.nil (by intro u hu; cases hu) (by unfold maxLen; omega) (by omega) (by have hz := hsz9; (try simp only [World.size_alloc, World.size_drew] at hz ⊢); omega) ?_; intro A4 c4 w5 hown4 hg4 hb4)
     | fail)
    have hBz := hB9.trans hb4
    have htz := ht0.below hBz
    have hel : (l.take l.length ++ [(⟨a, c, LA, L.length, LC⟩ : Hd)] ++ ([] : List Hd)).length = (l.length + 1) + (0) := by simp; try omega
    have hel2 : (l.take l.length ++ [(⟨a, c, LA, L.length, LC⟩ : Hd)] ++ ([] : List Hd)).length = (l.length + 1) + (0) := by simp; try omega
    go_ret
    refine ⟨⟨(l.take l.length ++ [(⟨a, c, LA, L.length, LC⟩ : Hd)] ++ ([] : List Hd)), A4, c4, by first | (rw [hel]; rfl) | (rw [hel2]; rfl) | (rw [hel, h0]; rfl) | (rw [hel]; simp [h0]; done), ?_, ?_, by rw [hel]; exact CapH.of_own hown4, (AtOr.own hown4).mono hWs, FarH.pieces0 (fun g h => by rw [List.mem_singleton.1 h]) _⟩, hB0.trans (hBz.mono hWs)⟩
    ·have h := Sl.of_own hown4
     have e : rc Hd.cells (l.take l.length ++ [(⟨a, c, LA, L.length, LC⟩ : Hd)] ++ ([] : List Hd)) = (rc Hd.cells (l.take l.length) ++ [.int .i64 a, .int .i64 c, .slice LA L.length LC]) ++ [] := by simp only [rc_append, show rc Hd.cells ([] : List Hd) = [] from rfl, show rc Hd.cells [(⟨a, c, LA, L.length, LC⟩ : Hd)] = [.int .i64 a, .int .i64 c, .slice LA L.length LC] from rfl, List.append_nil, List.append_assoc]
     rw [e]; exact h
    ·rw [HE.out]
     exact HdTab.append (HdTab.append (htz.take l.length) (HdTab.cons.2 ⟨⟨rfl, rfl, rfl, HLS.out _ hBz⟩, HdTab.nil _⟩)) (by rw [HDR.out]; exact HdTab.nil _)
   ·unfold maxLen at hcap2
    by_cases hcr : cap = l.length
    ·subst hcr
     go_wp2_with (first
      | (at_builtin; refine wpList_app rfl (.tmp 55) (.tmp 58) rfl EHd rfl rfl ho9 (m := 0) (news := []) rfl Sl.nil (by intro u hu; cases hu) (by unfold maxLen; omega) (by omega) (by have hz := hsz9; (try simp only [World.size_alloc, World.size_drew] at hz ⊢); omega) ?_; intro A4 c4 w5 hown4 hg4 hb4)
      | fail)
     have hBz := hB9.trans hb4
     have htz := ht0.below hBz
     have hel : (l.take l.length ++ [(⟨a, c, LA, L.length, LC⟩ : Hd)] ++ ([] : List Hd)).length = (l.length + 1) + (0) := by simp; try omega
     have hel2 : (l.take l.length ++ [(⟨a, c, LA, L.length, LC⟩ : Hd)] ++ ([] : List Hd)).length = (l.length + 1) + (0) := by simp; try omega
     go_ret
     refine ⟨⟨(l.take l.length ++ [(⟨a, c, LA, L.length, LC⟩ : Hd)] ++ ([] : List Hd)), A4, c4, by first | (rw [hel]; rfl) | (rw [hel2]; rfl) | (rw [hel, h0]; rfl) | (rw [hel]; simp [h0]; done), ?_, ?_, by rw [hel]; exact CapH.of_own hown4, (AtOr.own hown4).mono hWs, FarH.pieces0 (fun g h => by rw [List.mem_singleton.1 h]) _⟩, hB0.trans (hBz.mono hWs)⟩
     ·have h := Sl.of_own hown4
      have e : rc Hd.cells (l.take l.length ++ [(⟨a, c, LA, L.length, LC⟩ : Hd)] ++ ([] : List Hd)) = (rc Hd.cells (l.take l.length) ++ [.int .i64 a, .int .i64 c, .slice LA L.length LC]) ++ [] := by simp only [rc_append, show rc Hd.cells ([] : List Hd) = [] from rfl, show rc Hd.cells [(⟨a, c, LA, L.length, LC⟩ : Hd)] = [.int .i64 a, .int .i64 c, .slice LA L.length LC] from rfl, List.append_nil, List.append_assoc]
      rw [e]; exact h
     ·rw [HE.out]
      exact HdTab.append (HdTab.append (htz.take l.length) (HdTab.cons.2 ⟨⟨rfl, rfl, rfl, HLS.out _ hBz⟩, HdTab.nil _⟩)) (by rw [HDR.out]; exact HdTab.nil _)
    ·have hck : ¬ (cap = l.length) := hcr
     go_wp2_with (first
      | (at_builtin; refine wpList_app rfl (.tmp 55) (.tmp 58) rfl EHd rfl rfl ho9 (m := 0) (news := []) rfl Sl.nil (by intro u hu; cases hu) (by unfold maxLen; omega) (by omega) (by have hz := hsz9; (try simp only [World.size_alloc, World.size_drew] at hz ⊢); omega) ?_; intro A4 c4 w5 hown4 hg4 hb4)
      | fail)
     have hBz := hB9.trans hb4
     have htz := ht0.below hBz
     have hel : (l.take l.length ++ [(⟨a, c, LA, L.length, LC⟩ : Hd)] ++ ([] : List Hd)).length = (l.length + 1) + (0) := by simp; try omega
     have hel2 : (l.take l.length ++ [(⟨a, c, LA, L.length, LC⟩ : Hd)] ++ ([] : List Hd)).length = (l.length + 1) + (0) := by simp; try omega
     go_ret
     refine ⟨⟨(l.take l.length ++ [(⟨a, c, LA, L.length, LC⟩ : Hd)] ++ ([] : List Hd)), A4, c4, by first | (rw [hel]; rfl) | (rw [hel2]; rfl) | (rw [hel, h0]; rfl) | (rw [hel]; simp [h0]; done), ?_, ?_, by rw [hel]; exact CapH.of_own hown4, (AtOr.own hown4).mono hWs, FarH.pieces0 (fun g h => by rw [List.mem_singleton.1 h]) _⟩, hB0.trans (hBz.mono hWs)⟩
     ·have h := Sl.of_own hown4
      have e : rc Hd.cells (l.take l.length ++ [(⟨a, c, LA, L.length, LC⟩ : Hd)] ++ ([] : List Hd)) = (rc Hd.cells (l.take l.length) ++ [.int .i64 a, .int .i64 c, .slice LA L.length LC]) ++ [] := by simp only [rc_append, show rc Hd.cells ([] : List Hd) = [] from rfl, show rc Hd.cells [(⟨a, c, LA, L.length, LC⟩ : Hd)] = [.int .i64 a, .int .i64 c, .slice LA L.length LC] from rfl, List.append_nil, List.append_assoc]
      rw [e]; exact h
     ·rw [HE.out]
      exact HdTab.append (HdTab.append (htz.take l.length) (HdTab.cons.2 ⟨⟨rfl, rfl, rfl, HLS.out _ hBz⟩, HdTab.nil _⟩)) (by rw [HDR.out]; exact HdTab.nil _)
theorem rhwith_some (A : Option Addr) (cap : Nat) (l : List Hd) (cs : List Hc) (a c : Int) (LA : Option Addr) (LC : Nat) (L : List Lt) (w : World) (hl : l.length ≤ 900000) (hcap : CapH A l.length cap) (hs : Sl w A (rc Hd.cells l)) (ht : HdTab w l cs) (hso : SoH cs) (hLs : Sl w LA (rc Lt.cells L)) (hL0 : 0 < L.length) :
    Calls Tryz.prog 32 #[.slice A l.length cap, .agg #[.int .i64 a, .int .i64 c], .slice LA L.length LC] w fun e w' => HRow w' e (withH cs a c L) ∧ Below w.heap.size w w' :=
  (rhwith_someN A cap l cs a c LA LC L w hl hcap hs ht hso hLs hL0).mono fun e w h => ⟨h.1.row, h.2⟩
end Go.Proofs.YtmjndpkfhdoljaaGreat.Hq
end
