import Derived.Deep.CutBlock
import Derived.Deep.CutRange
import Derived.Deep.DeepCutAuto
import Derived.Test.YtmjndpkfhdoljaaGreatCm02
import Derived.Test.YtmjndpkfhdoljaaGreatCm40
import Derived.Test.YtmjndpkfhdoljaaGreatCm44
import Derived.Test.YtmjndpkfhdoljaaGreatCm46
import Derived.Test.YtmjndpkfhdoljaaGreatCm49
set_option maxHeartbeats 16000000
set_option maxRecDepth 100000
set_option linter.unusedVariables false
set_option linter.unusedSimpArgs false
namespace Go.Proofs.YtmjndpkfhdoljaaGreat
open Go.ChangeShapes Go.WideShapes Go.ChangeAt Go.RowKit
section
theorem lt27 {w : World} {a : Nat} {c : Array Value} {T : TypeId} {z : Nat × Nat} (h : w.heap[a]? = some (.cells c T z)) : a < w.heap.size := (Array.getElem?_eq_some_iff.1 h).1
theorem ne27 {w : World} {a b : Nat} {c d : Array Value} {T U : TypeId} {y z : Nat × Nat} (h : w.heap[a]? = some (.cells c T y)) (k : w.heap[b]? = some (.cells d U z)) (hT : T ≠ U) : a ≠ b := fun e => by
  rw [e, k] at h
  injection h with h
  injection h with _ h
  exact hT h.symm
theorem s5_27 {w : World} {g : Nat} {c0 c1 c2 c3 c4 : Value} {T : TypeId} (h : w.heap[g]? = some (.cells #[c0, c1, c2, c3, c4] T (0, 0))) (a0 a1 a2 a3 a4 : Value) : (((((w.setCell ⟨g, 0, none⟩ a0).setCell ⟨g, 1, none⟩ a1).setCell ⟨g, 2, none⟩ a2).setCell ⟨g, 3, none⟩ a3).setCell ⟨g, 4, none⟩ a4).heap[g]? = some (.cells #[a0, a1, a2, a3, a4] T (0, 0)) := by
  have := setb27 (i := 4) a4 (setb27 (i := 3) a3 (setb27 (i := 2) a2 (setb27 (i := 1) a1 (setb27 (i := 0) a0 h))))
  simpa using this
theorem s5f_27 {w : World} {g k : Nat} (h : k ≠ g) (a0 a1 a2 a3 a4 : Value) : (((((w.setCell ⟨g, 0, none⟩ a0).setCell ⟨g, 1, none⟩ a1).setCell ⟨g, 2, none⟩ a2).setCell ⟨g, 3, none⟩ a3).setCell ⟨g, 4, none⟩ a4).heap[k]? = w.heap[k]? := by
  rw [setf27 (p := ⟨g, 4, none⟩) a4 h, setf27 (p := ⟨g, 3, none⟩) a3 h, setf27 (p := ⟨g, 2, none⟩) a2 h, setf27 (p := ⟨g, 1, none⟩) a1 h, setf27 (p := ⟨g, 0, none⟩) a0 h]
theorem s4_27 {w : World} {g : Nat} {c0 c1 c2 c3 : Value} {T : TypeId} (h : w.heap[g]? = some (.cells #[c0, c1, c2, c3] T (0, 0))) (a0 a1 a2 a3 : Value) : ((((w.setCell ⟨g, 0, none⟩ a0).setCell ⟨g, 1, none⟩ a1).setCell ⟨g, 2, none⟩ a2).setCell ⟨g, 3, none⟩ a3).heap[g]? = some (.cells #[a0, a1, a2, a3] T (0, 0)) := by
  have := setb27 (i := 3) a3 (setb27 (i := 2) a2 (setb27 (i := 1) a1 (setb27 (i := 0) a0 h)))
  simpa using this
theorem s4f_27 {w : World} {g k : Nat} (h : k ≠ g) (a0 a1 a2 a3 : Value) : ((((w.setCell ⟨g, 0, none⟩ a0).setCell ⟨g, 1, none⟩ a1).setCell ⟨g, 2, none⟩ a2).setCell ⟨g, 3, none⟩ a3).heap[k]? = w.heap[k]? := by
  rw [setf27 (p := ⟨g, 3, none⟩) a3 h, setf27 (p := ⟨g, 2, none⟩) a2 h, setf27 (p := ⟨g, 1, none⟩) a1 h, setf27 (p := ⟨g, 0, none⟩) a0 h]
theorem s5b_27 {w0 w : World} {g B : Nat} (h : Below B w0 w) (hg : B ≤ g) (a0 a1 a2 a3 a4 : Value) : Below B w0 (((((w.setCell ⟨g, 0, none⟩ a0).setCell ⟨g, 1, none⟩ a1).setCell ⟨g, 2, none⟩ a2).setCell ⟨g, 3, none⟩ a3).setCell ⟨g, 4, none⟩ a4) :=
  Below.setCell (Below.setCell (Below.setCell (Below.setCell (Below.setCell h (p := ⟨g, 0, none⟩) hg a0) (p := ⟨g, 1, none⟩) hg a1) (p := ⟨g, 2, none⟩) hg a2) (p := ⟨g, 3, none⟩) hg a3) (p := ⟨g, 4, none⟩) hg a4
theorem s4b_27 {w0 w : World} {g B : Nat} (h : Below B w0 w) (hg : B ≤ g) (a0 a1 a2 a3 : Value) : Below B w0 ((((w.setCell ⟨g, 0, none⟩ a0).setCell ⟨g, 1, none⟩ a1).setCell ⟨g, 2, none⟩ a2).setCell ⟨g, 3, none⟩ a3) :=
  Below.setCell (Below.setCell (Below.setCell (Below.setCell h (p := ⟨g, 0, none⟩) hg a0) (p := ⟨g, 1, none⟩) hg a1) (p := ⟨g, 2, none⟩) hg a2) (p := ⟨g, 3, none⟩) hg a3
theorem SDL.s5 {w0 w : World} {B : Nat} {aA iA pA fA hA : Option Addr} {ac ic pc hc : Nat} {asl : List Ax} {li : List Iq} {is : List Ins} {lp : List Po} {cs : List Pc} {fl : List Fw} {lh : List Hd} {hs : List Hc} {g : Nat} {c0 c1 c2 c3 c4 : Value} (h : SDL w0 B w aA ac asl iA ic li is pA pc lp cs fA fl hA hc lh hs) (hp : w.heap[g]? = some (.cells #[c0, c1, c2, c3, c4] 34 (0, 0))) (h1 : w0.heap.size ≤ g) (a0 a1 a2 a3 a4 : Value) : SDL w0 B (((((w.setCell ⟨g, 0, none⟩ a0).setCell ⟨g, 1, none⟩ a1).setCell ⟨g, 2, none⟩ a2).setCell ⟨g, 3, none⟩ a3).setCell ⟨g, 4, none⟩ a4) aA ac asl iA ic li is pA pc lp cs fA fl hA hc lh hs :=
  ((((h.sett (p := ⟨g, 0, none⟩) hp (by decide) (by decide) (by decide) (by decide) h1 a0).sett (p := ⟨g, 1, none⟩) (setb27 (i := 0) a0 hp) (by decide) (by decide) (by decide) (by decide) h1 a1).sett (p := ⟨g, 2, none⟩) (setb27 (i := 1) a1 (setb27 (i := 0) a0 hp)) (by decide) (by decide) (by decide) (by decide) h1 a2).sett (p := ⟨g, 3, none⟩) (setb27 (i := 2) a2 (setb27 (i := 1) a1 (setb27 (i := 0) a0 hp))) (by decide) (by decide) (by decide) (by decide) h1 a3).sett (p := ⟨g, 4, none⟩) (setb27 (i := 3) a3 (setb27 (i := 2) a2 (setb27 (i := 1) a1 (setb27 (i := 0) a0 hp)))) (by decide) (by decide) (by decide) (by decide) h1 a4
theorem SDL.s4 {w0 w : World} {B : Nat} {aA iA pA fA hA : Option Addr} {ac ic pc hc : Nat} {asl : List Ax} {li : List Iq} {is : List Ins} {lp : List Po} {cs : List Pc} {fl : List Fw} {lh : List Hd} {hs : List Hc} {g : Nat} {c0 c1 c2 c3 : Value} (h : SDL w0 B w aA ac asl iA ic li is pA pc lp cs fA fl hA hc lh hs) (hp : w.heap[g]? = some (.cells #[c0, c1, c2, c3] 31 (0, 0))) (h1 : w0.heap.size ≤ g) (a0 a1 a2 a3 : Value) : SDL w0 B ((((w.setCell ⟨g, 0, none⟩ a0).setCell ⟨g, 1, none⟩ a1).setCell ⟨g, 2, none⟩ a2).setCell ⟨g, 3, none⟩ a3) aA ac asl iA ic li is pA pc lp cs fA fl hA hc lh hs :=
  (((h.sett (p := ⟨g, 0, none⟩) hp (by decide) (by decide) (by decide) (by decide) h1 a0).sett (p := ⟨g, 1, none⟩) (setb27 (i := 0) a0 hp) (by decide) (by decide) (by decide) (by decide) h1 a1).sett (p := ⟨g, 2, none⟩) (setb27 (i := 1) a1 (setb27 (i := 0) a0 hp)) (by decide) (by decide) (by decide) (by decide) h1 a2).sett (p := ⟨g, 3, none⟩) (setb27 (i := 2) a2 (setb27 (i := 1) a1 (setb27 (i := 0) a0 hp))) (by decide) (by decide) (by decide) (by decide) h1 a3
theorem Sl.offS27 {w : World} {g : Nat} {c : Array Value} {T : TypeId} {A : Option Addr} {xs : List Value} (h : Sl w A xs) (hb : w.heap[g]? = some (.cells c T (0, 0))) (hc : ∀ (i : Nat) (v : Value), c[i]? = some v → ∃ P n k, v = .slice P n k) (hx : HeadI xs) (i : Nat) (u : Value) : Sl (w.setCell ⟨g, i, none⟩ u) A xs := by
  by_cases hne : xs = []
  · subst hne; exact Sl.nil
  · refine h.far (fun b o hA he => ?_) u
    cases xs with
    | nil => exact hne rfl
    | cons x r =>
      obtain ⟨j, rfl⟩ := hx x rfl
      obtain ⟨b', o', hA', hc'⟩ := h.at_ (j := 0) (by simp)
      rw [hA] at hA'
      injection hA' with hA'
      injection hA' with e1 e2
      subst e1; subst e2
      replace he : b = g := he
      subst he
      rw [(bx27 hb (o + 0)).1] at hc'
      obtain ⟨P, n, k, e⟩ := hc _ _ hc'
      cases e
theorem HdTab.offS27 {w : World} {g : Nat} {c : Array Value} {T : TypeId} {l : List Hd} {cs : List Hc} (h : HdTab w l cs) (hb : w.heap[g]? = some (.cells c T (0, 0))) (hc : ∀ (i : Nat) (v : Value), c[i]? = some v → ∃ P n k, v = .slice P n k) (i : Nat) (u : Value) : HdTab (w.setCell ⟨g, i, none⟩ u) l cs :=
  ⟨h.1, fun k h1 h2 => ⟨(h.2 k h1 h2).ac, (h.2 k h1 h2).cl, (h.2 k h1 h2).len, (h.2 k h1 h2).sl.offS27 hb hc (headI_Lt _) i u⟩⟩
theorem all5S27 (A0 A1 A2 A3 A4 : Option Addr) (n0 n1 n2 n3 n4 k0 k1 k2 k3 k4 : Nat) : ∀ (i : Nat) (v : Value), (#[Value.slice A0 n0 k0, .slice A1 n1 k1, .slice A2 n2 k2, .slice A3 n3 k3, .slice A4 n4 k4] : Array Value)[i]? = some v → ∃ P n k, v = .slice P n k := by
  intro i v h
  rcases i with _ | _ | _ | _ | _ | i <;> simp at h <;> exact ⟨_, _, _, h.symm⟩
theorem walk_CoverMore (a0 : Array Value) (a1 : Array Value) (a2 : Array Value) (a3 : Int) (w : World) (w0 : Rd w (.cat (.sl (.cat (.int .i64) (.cat (.int .i64) (.cat (.int .i64) .nil)))) (.cat (.sl (.cat (.int .i64) (.cat (.int .i64) (.cat (.int .i64) (.cat (.int .i64) (.cat (.sl (.int .i64)) .nil)))))) (.cat (.sl (.cat (.cat (.int .i64) (.cat (.int .i64) .nil)) (.cat (.sl (.cat (.int .i64) (.cat (.int .i64) .nil))) .nil))) (.cat (.sl (.cat (.cat (.int .i64) (.cat (.int .i64) .nil)) (.cat (.int .i64) .nil))) (.cat (.sl (.cat (.cat (.int .i64) (.cat (.int .i64) .nil)) (.cat (.sl (.cat (.int .i64) (.cat (.int .i64) (.cat (.int .i64) .nil)))) .nil))) .nil))))) a0.toList) (w1 : Rd w (.cat (.int .i64) (.cat (.int .i64) (.cat (.int .i64) (.cat (.sl (.int .i64)) .nil)))) a1.toList) (w2 : Rd w (.cat (.int .i64) (.cat (.int .i64) (.cat (.int .i64) .nil))) a2.toList) (w3 : (Lit.int .i64 a3).wf = true) :
  Calls Tryz.prog 3 #[.agg a0, .agg a1, .agg a2, .int .i64 a3] w fun e w' => e = .returned (.bool true) ∧ Below w.heap.size w w' := by
 obtain ⟨aA, ac, al, iA, ic, li, pA, pc, lp, fA, fc, fl, hA, hc, lh, rfl, s1, s2, g2, s3, g3, s4, k4, m4, q4, s5, g5⟩ := rd_sideK w0
 obtain ⟨cid, cmem, ckind, GA, cap, L0, rfl, hgc, hgm, hgs, hcid, hLn⟩ := rd_acctK w1
 obtain ⟨xa, xt, xq, rfl, hxq⟩ := rd_lt27 w2
 have hm64 := bd_i64 w3
 clear w0 w1 w2 w3
 have hB0 := since_alloc (since_alloc (since_alloc (Below.refl _ w) (.cells #[.slice aA al.length ac, .slice iA li.length ic, .slice pA lp.length pc, .slice fA fl.length fc, .slice hA lh.length hc] 28)) (.cells #[.int .i64 cid, .int .i64 cmem, .int .i64 ckind, .slice GA L0.length cap] 31)) (.cells #[.int .i64 xa, .int .i64 xt, .int .i64 xq] 33)
 have hb1 : Below (w.alloc (.cells #[.slice aA al.length ac, .slice iA li.length ic, .slice pA lp.length pc, .slice fA fl.length fc, .slice hA lh.length hc] 28)).heap.size (w.alloc (.cells #[.slice aA al.length ac, .slice iA li.length ic, .slice pA lp.length pc, .slice fA fl.length fc, .slice hA lh.length hc] 28)) (((w.alloc (.cells #[.slice aA al.length ac, .slice iA li.length ic, .slice pA lp.length pc, .slice fA fl.length fc, .slice hA lh.length hc] 28)).alloc (.cells #[.int .i64 cid, .int .i64 cmem, .int .i64 ckind, .slice GA L0.length cap] 31)).alloc (.cells #[.int .i64 xa, .int .i64 xt, .int .i64 xq] 33)) := since_alloc (since_alloc (Below.refl _ _) (.cells #[.int .i64 cid, .int .i64 cmem, .int .i64 ckind, .slice GA L0.length cap] 31)) (.cells #[.int .i64 xa, .int .i64 xt, .int .i64 xq] 33)
 have hb2 : Below ((w.alloc (.cells #[.slice aA al.length ac, .slice iA li.length ic, .slice pA lp.length pc, .slice fA fl.length fc, .slice hA lh.length hc] 28)).alloc (.cells #[.int .i64 cid, .int .i64 cmem, .int .i64 ckind, .slice GA L0.length cap] 31)).heap.size ((w.alloc (.cells #[.slice aA al.length ac, .slice iA li.length ic, .slice pA lp.length pc, .slice fA fl.length fc, .slice hA lh.length hc] 28)).alloc (.cells #[.int .i64 cid, .int .i64 cmem, .int .i64 ckind, .slice GA L0.length cap] 31)) (((w.alloc (.cells #[.slice aA al.length ac, .slice iA li.length ic, .slice pA lp.length pc, .slice fA fl.length fc, .slice hA lh.length hc] 28)).alloc (.cells #[.int .i64 cid, .int .i64 cmem, .int .i64 ckind, .slice GA L0.length cap] 31)).alloc (.cells #[.int .i64 xa, .int .i64 xt, .int .i64 xq] 33)) := since_alloc (Below.refl _ _) (.cells #[.int .i64 xa, .int .i64 xt, .int .i64 xq] 33)
 have k1 : (((w.alloc (.cells #[.slice aA al.length ac, .slice iA li.length ic, .slice pA lp.length pc, .slice fA fl.length fc, .slice hA lh.length hc] 28)).alloc (.cells #[.int .i64 cid, .int .i64 cmem, .int .i64 ckind, .slice GA L0.length cap] 31)).alloc (.cells #[.int .i64 xa, .int .i64 xt, .int .i64 xq] 33)).heap[w.heap.size]? = some (.cells #[.slice aA al.length ac, .slice iA li.length ic, .slice pA lp.length pc, .slice fA fl.length fc, .slice hA lh.length hc] 28 (0, 0)) := (hb1.block _ (by simp)).trans (by rw [heap_alloc_new])
 have k2 : (((w.alloc (.cells #[.slice aA al.length ac, .slice iA li.length ic, .slice pA lp.length pc, .slice fA fl.length fc, .slice hA lh.length hc] 28)).alloc (.cells #[.int .i64 cid, .int .i64 cmem, .int .i64 ckind, .slice GA L0.length cap] 31)).alloc (.cells #[.int .i64 xa, .int .i64 xt, .int .i64 xq] 33)).heap[w.heap.size + 1]? = some (.cells #[.int .i64 cid, .int .i64 cmem, .int .i64 ckind, .slice GA L0.length cap] 31 (0, 0)) := (hb2.block _ (by simp)).trans (by rw [show w.heap.size + 1 = (w.alloc (.cells #[.slice aA al.length ac, .slice iA li.length ic, .slice pA lp.length pc, .slice fA fl.length fc, .slice hA lh.length hc] 28)).heap.size by simp, heap_alloc_new])
 have k3 : (((w.alloc (.cells #[.slice aA al.length ac, .slice iA li.length ic, .slice pA lp.length pc, .slice fA fl.length fc, .slice hA lh.length hc] 28)).alloc (.cells #[.int .i64 cid, .int .i64 cmem, .int .i64 ckind, .slice GA L0.length cap] 31)).alloc (.cells #[.int .i64 xa, .int .i64 xt, .int .i64 xq] 33)).heap[w.heap.size + 1 + 1]? = some (.cells #[.int .i64 xa, .int .i64 xt, .int .i64 xq] 33 (0, 0)) := by rw [show w.heap.size + 1 + 1 = ((w.alloc (.cells #[.slice aA al.length ac, .slice iA li.length ic, .slice pA lp.length pc, .slice fA fl.length fc, .slice hA lh.length hc] 28)).alloc (.cells #[.int .i64 cid, .int .i64 cmem, .int .i64 ckind, .slice GA L0.length cap] 31)).heap.size by simp, heap_alloc_new]
 have HFW := Lib.hid (fun V (h : Below w.heap.size w V) => few27L_any aA ac al iA ic li pA pc lp fA fc fl hA hc lh w V h (s1.below h) (s2.below h) g2 (s3.below h) g3 s4 k4 m4 (fun x hx => (q4 x hx).2.2) (s5.below h) g5)
 have HFW2 : Hid (∀ V, Below w.heap.size w V → Calls Tryz.prog 5 #[.agg #[.slice aA al.length ac, .slice iA li.length ic, .slice pA lp.length pc, .slice fA fl.length fc, .slice hA lh.length hc]] V fun e w' => Few27L w V.heap.size fl w' e ∧ Below V.heap.size V w') := HFW
 have HFW : Hid (∀ V, Below w.heap.size w V → Calls Tryz.prog 5 #[.agg #[.slice aA al.length ac, .slice iA li.length ic, .slice pA lp.length pc, .slice fA fl.length fc, .slice hA lh.length hc]] V fun e w' => Few27L w w.heap.size fl w' e ∧ Below V.heap.size V w') := Lib.hid fun V h => (HFW2.out V h).mono fun e w' hq => ⟨by
  obtain ⟨⟨zA, zac, asl, jA, jc, mi, is, qA, qc, mp, cs, gA, gc, ml, kA, kc, mh, hs, e1, hd, r⟩, _⟩ := hq
  exact ⟨zA, zac, asl, jA, jc, mi, is, qA, qc, mp, cs, gA, gc, ml, kA, kc, mh, hs, e1, hd.base h.size, r⟩, hq.2⟩
 have HSH := fun V (h : Below w.heap.size w V) => short25_any cid cmem ckind GA cap L0 V hgc hgm (hgs.below h)
 obtain ⟨L, hL⟩ : ∃ L, L0.take 20 = L := ⟨_, rfl⟩
 rw [hL] at HSH
 have HSH := Lib.hid HSH
 have HLL : Hid (L.length ≤ 20 ∧ (∀ y ∈ L, In64 y.n) ∧ ∀ V, Below w.heap.size w V → Sl V GA (rc Nt.cells L)) := Lib.hid ⟨by rw [← hL]; simp; omega, fun y hy => hLn y (List.mem_of_mem_take (by rw [hL]; exact hy)), fun V h => by
  have h9 := (hgs.below h).take (20 * 1)
  rw [rc_take Nt.len, hL] at h9
  exact h9⟩
 have HIN := Lib.hid (And.intro hcid (And.intro hxq hm64))
 have HQ4 := Lib.hid q4
 have HLV := Lib.hid (fun V => lives27_any V)
 clear s1 s2 g2 s3 g3 s4 k4 m4 q4 s5 g5 hgc hgm hgs hcid hLn hxq hm64 hL hb1 hb2 HFW2
 go_enter Tryz.func3, Tryz.ntmps3
 go_upto_region 1 with fail
 generalize ((w.alloc (.cells #[.slice aA al.length ac, .slice iA li.length ic, .slice pA lp.length pc, .slice fA fl.length fc, .slice hA lh.length hc] 28)).alloc (.cells #[.int .i64 cid, .int .i64 cmem, .int .i64 ckind, .slice GA L0.length cap] 31)).alloc (.cells #[.int .i64 xa, .int .i64 xt, .int .i64 xq] 33) = W0 at *
 have HS0 : Hid (W0.drew.heap[w.heap.size]? = some (.cells #[.slice aA al.length ac, .slice iA li.length ic, .slice pA lp.length pc, .slice fA fl.length fc, .slice hA lh.length hc] 28 (0, 0))) := Lib.hid k1
 have HA : Hid (W0.drew.heap[w.heap.size + 1]? = some (.cells #[.int .i64 cid, .int .i64 cmem, .int .i64 ckind, .slice GA L0.length cap] 31 (0, 0))) := Lib.hid k2
 have HL : Hid (W0.drew.heap[w.heap.size + 1 + 1]? = some (.cells #[.int .i64 xa, .int .i64 xt, .int .i64 xq] 33 (0, 0))) := Lib.hid k3
 have HW0 : Hid (Below w.heap.size w W0.drew) := Lib.hid hB0.drew
 have HQ : Hid (∀ V, (fun V => V.heap[w.heap.size]? = some (.cells #[.slice aA al.length ac, .slice iA li.length ic, .slice pA lp.length pc, .slice fA fl.length fc, .slice hA lh.length hc] 28 (0, 0)) ∧ Below w.heap.size w V) V → V.cell? ⟨w.heap.size, 0, none⟩ = some (.slice aA al.length ac) ∧ V.cell? ⟨w.heap.size, 1, none⟩ = some (.slice iA li.length ic) ∧ V.cell? ⟨w.heap.size, 2, none⟩ = some (.slice pA lp.length pc) ∧ V.cell? ⟨w.heap.size, 3, none⟩ = some (.slice fA fl.length fc) ∧ V.cell? ⟨w.heap.size, 4, none⟩ = some (.slice hA lh.length hc)) := Lib.hid fun V h => ⟨(bx27 h.1 0).1, (bx27 h.1 1).1, (bx27 h.1 2).1, (bx27 h.1 3).1, (bx27 h.1 4).1⟩
 clear k1 k2 k3 hB0
 go_cut [9] (fun s9 wx => ∃ (gy : Nat) (zA : Option Addr) (zac : Nat) (asl : List Ax) (jA : Option Addr) (jc : Nat) (mi : List Iq) (is : List Ins) (qA : Option Addr) (qc : Nat) (mp : List Po) (cs : List Pc) (gA : Option Addr) (gc : Nat) (ml : List Fw) (kA : Option Addr) (kc : Nat) (mh : List Hd) (hs : List Hc), s9 = .pointer (some ⟨gy, 0, none⟩) ∧ SDL w w.heap.size wx zA zac asl jA jc mi is qA qc mp cs gA ml kA kc mh hs ∧ (SB asl mi is mp cs ml mh hs ∧ (∀ x ∈ ml, x ∈ fl) ∧ ml.length ≤ 20 ∧ mh.length ≤ 1000) ∧ wx.heap[gy]? = some (.cells #[.slice zA asl.length zac, .slice jA mi.length jc, .slice qA mp.length qc, .slice gA ml.length gc, .slice kA mh.length kc] 34 (0, 0)) ∧ wx.heap[w.heap.size + 1]? = some (.cells #[.int .i64 cid, .int .i64 cmem, .int .i64 ckind, .slice GA L.length cap] 31 (0, 0)) ∧ wx.heap[w.heap.size + 1 + 1]? = some (.cells #[.int .i64 xa, .int .i64 xt, .int .i64 xq] 33 (0, 0)) ∧ Below w.heap.size w wx)
 case first =>
  refine wp_region_held_drew (S := (fun V => V.heap[w.heap.size]? = some (.cells #[.slice aA al.length ac, .slice iA li.length ic, .slice pA lp.length pc, .slice fA fl.length fc, .slice hA lh.length hc] 28 (0, 0)) ∧ Below w.heap.size w V)) (by kernel_rfl) (by exact ⟨HS0.out, HW0.out⟩) (fun hHeld => ?_)
  refine tkI 0 22 rfl (by intro w hSw; obtain ⟨p0, p1, p2, p3, p4⟩ := HQ.out _ (hSw); go_simp <;> with_reducible rfl) hHeld ?_; simp only [pqZ]
  refine wpAnyH_ready (rs := [1, 2, 4]) (by kernel_rfl) (by simp) ?_
  refine AllReadyH.cons (o := ⟨some 23, _, _, _, _, _⟩) rfl (fun K hK => ?_) (AllReadyH.cons (o := ⟨some 24, _, _, _, _, _⟩) rfl (fun K hK => ?_) (AllReadyH.cons (o := ⟨some 9, _, _, _, _, _⟩) rfl (fun K hK => ?_) AllReadyH.nil))
  ·go_simp
   refine (HFW.out _ hHeld.2).mono ?_
   rintro e y1 ⟨⟨zA, zac, asl, jA, jc, mi, is, qA, qc, mp, cs, gA, gc, ml, kA, kc, mh, hs, rfl, hd, hbnd, hsub, hml⟩, hk1⟩
   have hKeep := And.intro ((hk1.block _ (lt27 hHeld.1)).trans hHeld.1) (since_step hHeld.2 hk1)
   have HA := Lib.hid ((hk1.block _ (lt27 HA.out)).trans HA.out)
   have HL := Lib.hid ((hk1.block _ (lt27 HL.out)).trans HL.out)
   have HD := Lib.hid hd
   have HSB := Lib.hid (And.intro hbnd (And.intro hsub hml))
   clear hd hbnd hsub hml hk1
   go_wp2_with fail
   refine hK.out _ _ (by (try dsimp only); exact hKeep) (fun hHeld => ?_); clear hK K hKeep; try simp only [pqZ]
   refine wpAnyH_ready (rs := [2, 4]) (by kernel_rfl) (by simp) ?_
   refine AllReadyH.cons (o := ⟨some 24, _, _, _, _, _⟩) rfl (fun K hK => ?_) (AllReadyH.cons (o := ⟨some 9, _, _, _, _, _⟩) rfl (fun K hK => ?_) AllReadyH.nil)
   ·have hHd := hHeld
    skip
    have b0 := (bx27 HA.out 0).1
    have b1 := (bx27 HA.out 1).1
    have b2 := (bx27 HA.out 2).1
    have b3 := (bx27 HA.out 3).1
    have hKeep := hHeld
    go_simp
    refine hK.out _ _ (by (try dsimp only); exact hKeep) (fun hHeld => ?_); clear hK K hKeep; try simp only [pqZ]
    refine wpAnyH_ready (rs := [3, 4]) (by kernel_rfl) (by simp) ?_
    refine AllReadyH.cons (o := ⟨some 25, _, _, _, _, _⟩) rfl (fun K hK => ?_) (AllReadyH.cons (o := ⟨some 9, _, _, _, _, _⟩) rfl (fun K hK => ?_) AllReadyH.nil)
    ·go_simp
     try clear b0 b1 b2 b3
     refine (HSH.out _ hHeld.2).mono ?_
     rintro e y3 ⟨rfl, hk1⟩
     have hKeep := And.intro ((hk1.block _ (lt27 hHeld.1)).trans hHeld.1) (since_step hHeld.2 hk1)
     have HA := Lib.hid ((hk1.block _ (lt27 HA.out)).trans HA.out)
     have HL := Lib.hid ((hk1.block _ (lt27 HL.out)).trans HL.out)
     have HD := Lib.hid (HD.out.below hk1)
     clear hk1
     go_wp2_with fail
     refine hK.out _ _ (by (try dsimp only); exact hKeep) (fun hHeld => ?_); clear hK K hKeep; try simp only [pqZ]
     refine rdZ 4 9 rfl (by kernel_rfl) (fun K hK => ?_)
     have hHd := hHeld
     skip
     have HGE := Lib.hid hHeld.2.size
     have HHp := Lib.hid hHeld
     have HAp := HA
     have HLp := HL
     have HDp := HD
     have hKeep := And.intro ((((Below.refl y3.heap.size y3).alloc (Nat.le_refl _) (.cells #[.slice none 0 0, .slice none 0 0, .slice none 0 0, .slice none 0 0, .slice none 0 0] 34)).block _ (lt27 hHeld.1)).trans hHeld.1) (since_alloc hHeld.2 (.cells #[.slice none 0 0, .slice none 0 0, .slice none 0 0, .slice none 0 0, .slice none 0 0] 34))
     have HA : Hid (((y3.alloc (.cells #[.slice none 0 0, .slice none 0 0, .slice none 0 0, .slice none 0 0, .slice none 0 0] 34))).heap[w.heap.size + 1]? = some (.cells #[.int .i64 cid, .int .i64 cmem, .int .i64 ckind, .slice GA L0.length cap] 31 (0, 0))) := Lib.hid ((((Below.refl y3.heap.size y3).alloc (Nat.le_refl _) (.cells #[.slice none 0 0, .slice none 0 0, .slice none 0 0, .slice none 0 0, .slice none 0 0] 34)).block _ (lt27 HA.out)).trans HA.out)
     have HL : Hid (((y3.alloc (.cells #[.slice none 0 0, .slice none 0 0, .slice none 0 0, .slice none 0 0, .slice none 0 0] 34))).heap[w.heap.size + 1 + 1]? = some (.cells #[.int .i64 xa, .int .i64 xt, .int .i64 xq] 33 (0, 0))) := Lib.hid ((((Below.refl y3.heap.size y3).alloc (Nat.le_refl _) (.cells #[.slice none 0 0, .slice none 0 0, .slice none 0 0, .slice none 0 0, .slice none 0 0] 34)).block _ (lt27 HL.out)).trans HL.out)
     have HD := Lib.hid (HD.out.below ((Below.refl y3.heap.size y3).alloc (Nat.le_refl _) (.cells #[.slice none 0 0, .slice none 0 0, .slice none 0 0, .slice none 0 0, .slice none 0 0] 34)))
     have HG : Hid (((y3.alloc (.cells #[.slice none 0 0, .slice none 0 0, .slice none 0 0, .slice none 0 0, .slice none 0 0] 34))).heap[y3.heap.size]? = some (.cells #[.slice none 0 0, .slice none 0 0, .slice none 0 0, .slice none 0 0, .slice none 0 0] 34)) := Lib.hid (show (y3.alloc (.cells #[.slice none 0 0, .slice none 0 0, .slice none 0 0, .slice none 0 0, .slice none 0 0] 34)).heap[y3.heap.size]? = _ from by rw [heap_alloc_new])
     go_simp
     refine hK.out _ _ (by (try dsimp only); exact hKeep) (fun hHeld => ?_); clear hK K hKeep; try simp only [pqZ]
     refine wpAnyH_ready (rs := [5]) (by kernel_rfl) (by simp) ?_
     refine AllReadyH.cons (o := ⟨none, _, _, _, _, _⟩) rfl (fun K hK => ?_) AllReadyH.nil
     have hHd := hHeld
     skip
     have x0 := (bx27 HG.out 0).1
     have x1 := (bx27 HG.out 1).1
     have x2 := (bx27 HG.out 2).1
     have x3 := (bx27 HG.out 3).1
     have x4 := (bx27 HG.out 4).1
     have f0 := (bx27 HG.out 0).2.1
     have f1 := (bx27 HG.out 1).2.1
     have f2 := (bx27 HG.out 2).2.1
     have f3 := (bx27 HG.out 3).2.1
     have f4 := (bx27 HG.out 4).2.1
     have gs := (bx27 HG.out 0).2.2
     have hKeep := And.intro ((((Below.refl y3.heap.size y3).alloc (Nat.le_refl _) (.cells #[.slice zA asl.length zac, .slice jA mi.length jc, .slice qA mp.length qc, .slice gA ml.length gc, .slice kA mh.length kc] 34)).block _ (lt27 HHp.out.1)).trans HHp.out.1) (since_alloc HHp.out.2 (.cells #[.slice zA asl.length zac, .slice jA mi.length jc, .slice qA mp.length qc, .slice gA ml.length gc, .slice kA mh.length kc] 34))
     have HD2 := Lib.hid (HDp.out.below ((Below.refl y3.heap.size y3).alloc (Nat.le_refl _) (.cells #[.slice zA asl.length zac, .slice jA mi.length jc, .slice qA mp.length qc, .slice gA ml.length gc, .slice kA mh.length kc] 34)))
     have HA2 := Lib.hid ((((Below.refl y3.heap.size y3).alloc (Nat.le_refl _) (.cells #[.slice zA asl.length zac, .slice jA mi.length jc, .slice qA mp.length qc, .slice gA ml.length gc, .slice kA mh.length kc] 34)).block _ (lt27 HAp.out)).trans HAp.out)
     have HL2 := Lib.hid ((((Below.refl y3.heap.size y3).alloc (Nat.le_refl _) (.cells #[.slice zA asl.length zac, .slice jA mi.length jc, .slice qA mp.length qc, .slice gA ml.length gc, .slice kA mh.length kc] 34)).block _ (lt27 HLp.out)).trans HLp.out)
     have HG2 : Hid ((y3.alloc (.cells #[.slice zA asl.length zac, .slice jA mi.length jc, .slice qA mp.length qc, .slice gA ml.length gc, .slice kA mh.length kc] 34)).heap[y3.heap.size]? = some (.cells #[.slice zA asl.length zac, .slice jA mi.length jc, .slice qA mp.length qc, .slice gA ml.length gc, .slice kA mh.length kc] 34 (0, 0))) := Lib.hid (by rw [heap_alloc_new])
     go_simp
     refine hK.out _ _ (by (try dsimp only); exact hKeep) (fun hHeld => ?_); clear hK K hKeep; try simp only [pqZ]
     refine wpAnyH_ready (rs := [6]) (by kernel_rfl) (by simp) ?_
     refine AllReadyH.cons (o := ⟨none, _, _, _, _, _⟩) rfl (fun K hK => ?_) AllReadyH.nil
     have hHd := hHeld
     skip
     clear x0 x1 x2 x3 x4 f0 f1 f2 f3 f4 gs
     have b0 := (bx27 HA2.out 0).1
     have b1 := (bx27 HA2.out 1).1
     have b2 := (bx27 HA2.out 2).1
     have b3 := (bx27 HA2.out 3).1
     have f0 := (bx27 HA2.out 0).2.1
     have f1 := (bx27 HA2.out 1).2.1
     have f2 := (bx27 HA2.out 2).2.1
     have f3 := (bx27 HA2.out 3).2.1
     have gs := (bx27 HA2.out 0).2.2
     have hge2 : w.heap.size ≤ w.heap.size + 1 := by omega
     have hKeep := And.intro ((s4f_27 (ne27 hHeld.1 HA2.out (by decide)) (.int .i64 cid) (.int .i64 cmem) (.int .i64 ckind) (.slice GA L.length cap)).trans hHeld.1) (s4b_27 hHeld.2 hge2 (.int .i64 cid) (.int .i64 cmem) (.int .i64 ckind) (.slice GA L.length cap))
     have HD3 := Lib.hid (HD2.out.s4 HA2.out hge2 (.int .i64 cid) (.int .i64 cmem) (.int .i64 ckind) (.slice GA L.length cap))
     have HA3 := Lib.hid (s4_27 HA2.out (.int .i64 cid) (.int .i64 cmem) (.int .i64 ckind) (.slice GA L.length cap))
     have HL3 := Lib.hid ((s4f_27 (ne27 HL2.out HA2.out (by decide)) (.int .i64 cid) (.int .i64 cmem) (.int .i64 ckind) (.slice GA L.length cap)).trans HL2.out)
     have HG3 := Lib.hid ((s4f_27 (ne27 HG2.out HA2.out (by decide)) (.int .i64 cid) (.int .i64 cmem) (.int .i64 ckind) (.slice GA L.length cap)).trans HG2.out)
     go_simp
     refine hK.out _ _ (by (try dsimp only); exact hKeep) (fun hHeld => ?_); clear hK K hKeep; try simp only [pqZ]
     refine wpAnyH_done (by kernel_rfl) ?_ _
     have hBL := hHeld.2
     clear hHeld
     go_wp2_with fail
     go_meet
     case rel => exact ⟨y3.heap.size, zA, zac, asl, jA, jc, mi, is, qA, qc, mp, cs, gA, gc, ml, kA, kc, mh, hs, rfl, HD3.out.base (by first | exact Nat.le_refl _ | exact HW0.out.size | omega), HSB.out, HG3.out, HA3.out, HL3.out, hBL⟩
    ·have hHd := hHeld
     skip
     have HGE := Lib.hid hHeld.2.size
     have HHp := Lib.hid hHeld
     have HAp := HA
     have HLp := HL
     have HDp := HD
     have hKeep := And.intro ((((Below.refl y1.heap.size y1).alloc (Nat.le_refl _) (.cells #[.slice none 0 0, .slice none 0 0, .slice none 0 0, .slice none 0 0, .slice none 0 0] 34)).block _ (lt27 hHeld.1)).trans hHeld.1) (since_alloc hHeld.2 (.cells #[.slice none 0 0, .slice none 0 0, .slice none 0 0, .slice none 0 0, .slice none 0 0] 34))
     have HA : Hid (((y1.alloc (.cells #[.slice none 0 0, .slice none 0 0, .slice none 0 0, .slice none 0 0, .slice none 0 0] 34))).heap[w.heap.size + 1]? = some (.cells #[.int .i64 cid, .int .i64 cmem, .int .i64 ckind, .slice GA L0.length cap] 31 (0, 0))) := Lib.hid ((((Below.refl y1.heap.size y1).alloc (Nat.le_refl _) (.cells #[.slice none 0 0, .slice none 0 0, .slice none 0 0, .slice none 0 0, .slice none 0 0] 34)).block _ (lt27 HA.out)).trans HA.out)
     have HL : Hid (((y1.alloc (.cells #[.slice none 0 0, .slice none 0 0, .slice none 0 0, .slice none 0 0, .slice none 0 0] 34))).heap[w.heap.size + 1 + 1]? = some (.cells #[.int .i64 xa, .int .i64 xt, .int .i64 xq] 33 (0, 0))) := Lib.hid ((((Below.refl y1.heap.size y1).alloc (Nat.le_refl _) (.cells #[.slice none 0 0, .slice none 0 0, .slice none 0 0, .slice none 0 0, .slice none 0 0] 34)).block _ (lt27 HL.out)).trans HL.out)
     have HD := Lib.hid (HD.out.below ((Below.refl y1.heap.size y1).alloc (Nat.le_refl _) (.cells #[.slice none 0 0, .slice none 0 0, .slice none 0 0, .slice none 0 0, .slice none 0 0] 34)))
     have HG : Hid (((y1.alloc (.cells #[.slice none 0 0, .slice none 0 0, .slice none 0 0, .slice none 0 0, .slice none 0 0] 34))).heap[y1.heap.size]? = some (.cells #[.slice none 0 0, .slice none 0 0, .slice none 0 0, .slice none 0 0, .slice none 0 0] 34)) := Lib.hid (show (y1.alloc (.cells #[.slice none 0 0, .slice none 0 0, .slice none 0 0, .slice none 0 0, .slice none 0 0] 34)).heap[y1.heap.size]? = _ from by rw [heap_alloc_new])
     go_simp
     refine hK.out _ _ (by (try dsimp only); exact hKeep) (fun hHeld => ?_); clear hK K hKeep; try simp only [pqZ]
     refine rdZ 3 25 rfl (by kernel_rfl) (fun K hK => ?_)
     go_simp
     try clear b0 b1 b2 b3
     refine (HSH.out _ hHeld.2).mono ?_
     rintro e y3 ⟨rfl, hk1⟩
     have hKeep := And.intro ((hk1.block _ (lt27 hHeld.1)).trans hHeld.1) (since_step hHeld.2 hk1)
     have HA := Lib.hid ((hk1.block _ (lt27 HA.out)).trans HA.out)
     have HL := Lib.hid ((hk1.block _ (lt27 HL.out)).trans HL.out)
     have HG := Lib.hid ((hk1.block _ (lt27 HG.out)).trans HG.out)
     have HD := Lib.hid (HD.out.below hk1)
     clear hk1
     go_wp2_with fail
     refine hK.out _ _ (by (try dsimp only); exact hKeep) (fun hHeld => ?_); clear hK K hKeep; try simp only [pqZ]
     refine wpAnyH_ready (rs := [5]) (by kernel_rfl) (by simp) ?_
     refine AllReadyH.cons (o := ⟨none, _, _, _, _, _⟩) rfl (fun K hK => ?_) AllReadyH.nil
     have hHd := hHeld
     skip
     have x0 := (bx27 HG.out 0).1
     have x1 := (bx27 HG.out 1).1
     have x2 := (bx27 HG.out 2).1
     have x3 := (bx27 HG.out 3).1
     have x4 := (bx27 HG.out 4).1
     have f0 := (bx27 HG.out 0).2.1
     have f1 := (bx27 HG.out 1).2.1
     have f2 := (bx27 HG.out 2).2.1
     have f3 := (bx27 HG.out 3).2.1
     have f4 := (bx27 HG.out 4).2.1
     have gs := (bx27 HG.out 0).2.2
     have hge : w.heap.size ≤ y1.heap.size := HGE.out
     have hKeep := And.intro ((s5f_27 (ne27 hHeld.1 HG.out (by decide)) (.slice zA asl.length zac) (.slice jA mi.length jc) (.slice qA mp.length qc) (.slice gA ml.length gc) (.slice kA mh.length kc)).trans hHeld.1) (s5b_27 hHeld.2 hge (.slice zA asl.length zac) (.slice jA mi.length jc) (.slice qA mp.length qc) (.slice gA ml.length gc) (.slice kA mh.length kc))
     have HD2 := Lib.hid (HD.out.s5 HG.out hge (.slice zA asl.length zac) (.slice jA mi.length jc) (.slice qA mp.length qc) (.slice gA ml.length gc) (.slice kA mh.length kc))
     have HA2 := Lib.hid ((s5f_27 (ne27 HA.out HG.out (by decide)) (.slice zA asl.length zac) (.slice jA mi.length jc) (.slice qA mp.length qc) (.slice gA ml.length gc) (.slice kA mh.length kc)).trans HA.out)
     have HL2 := Lib.hid ((s5f_27 (ne27 HL.out HG.out (by decide)) (.slice zA asl.length zac) (.slice jA mi.length jc) (.slice qA mp.length qc) (.slice gA ml.length gc) (.slice kA mh.length kc)).trans HL.out)
     have HG2 := Lib.hid (s5_27 HG.out (.slice zA asl.length zac) (.slice jA mi.length jc) (.slice qA mp.length qc) (.slice gA ml.length gc) (.slice kA mh.length kc))
     go_simp
     refine hK.out _ _ (by (try dsimp only); exact hKeep) (fun hHeld => ?_); clear hK K hKeep; try simp only [pqZ]
     refine wpAnyH_ready (rs := [6]) (by kernel_rfl) (by simp) ?_
     refine AllReadyH.cons (o := ⟨none, _, _, _, _, _⟩) rfl (fun K hK => ?_) AllReadyH.nil
     have hHd := hHeld
     skip
     clear x0 x1 x2 x3 x4 f0 f1 f2 f3 f4 gs
     have b0 := (bx27 HA2.out 0).1
     have b1 := (bx27 HA2.out 1).1
     have b2 := (bx27 HA2.out 2).1
     have b3 := (bx27 HA2.out 3).1
     have f0 := (bx27 HA2.out 0).2.1
     have f1 := (bx27 HA2.out 1).2.1
     have f2 := (bx27 HA2.out 2).2.1
     have f3 := (bx27 HA2.out 3).2.1
     have gs := (bx27 HA2.out 0).2.2
     have hge2 : w.heap.size ≤ w.heap.size + 1 := by omega
     have hKeep := And.intro ((s4f_27 (ne27 hHeld.1 HA2.out (by decide)) (.int .i64 cid) (.int .i64 cmem) (.int .i64 ckind) (.slice GA L.length cap)).trans hHeld.1) (s4b_27 hHeld.2 hge2 (.int .i64 cid) (.int .i64 cmem) (.int .i64 ckind) (.slice GA L.length cap))
     have HD3 := Lib.hid (HD2.out.s4 HA2.out hge2 (.int .i64 cid) (.int .i64 cmem) (.int .i64 ckind) (.slice GA L.length cap))
     have HA3 := Lib.hid (s4_27 HA2.out (.int .i64 cid) (.int .i64 cmem) (.int .i64 ckind) (.slice GA L.length cap))
     have HL3 := Lib.hid ((s4f_27 (ne27 HL2.out HA2.out (by decide)) (.int .i64 cid) (.int .i64 cmem) (.int .i64 ckind) (.slice GA L.length cap)).trans HL2.out)
     have HG3 := Lib.hid ((s4f_27 (ne27 HG2.out HA2.out (by decide)) (.int .i64 cid) (.int .i64 cmem) (.int .i64 ckind) (.slice GA L.length cap)).trans HG2.out)
     go_simp
     refine hK.out _ _ (by (try dsimp only); exact hKeep) (fun hHeld => ?_); clear hK K hKeep; try simp only [pqZ]
     refine wpAnyH_done (by kernel_rfl) ?_ _
     have hBL := hHeld.2
     clear hHeld
     go_wp2_with fail
     go_meet
     case rel => exact ⟨y1.heap.size, zA, zac, asl, jA, jc, mi, is, qA, qc, mp, cs, gA, gc, ml, kA, kc, mh, hs, rfl, HD3.out.base (by first | exact Nat.le_refl _ | exact HW0.out.size | omega), HSB.out, HG3.out, HA3.out, HL3.out, hBL⟩
   ·have hHd := hHeld
    skip
    have HGE := Lib.hid hHeld.2.size
    have HHp := Lib.hid hHeld
    have HAp := HA
    have HLp := HL
    have HDp := HD
    have hKeep := And.intro ((((Below.refl y1.heap.size y1).alloc (Nat.le_refl _) (.cells #[.slice none 0 0, .slice none 0 0, .slice none 0 0, .slice none 0 0, .slice none 0 0] 34)).block _ (lt27 hHeld.1)).trans hHeld.1) (since_alloc hHeld.2 (.cells #[.slice none 0 0, .slice none 0 0, .slice none 0 0, .slice none 0 0, .slice none 0 0] 34))
    have HA : Hid (((y1.alloc (.cells #[.slice none 0 0, .slice none 0 0, .slice none 0 0, .slice none 0 0, .slice none 0 0] 34))).heap[w.heap.size + 1]? = some (.cells #[.int .i64 cid, .int .i64 cmem, .int .i64 ckind, .slice GA L0.length cap] 31 (0, 0))) := Lib.hid ((((Below.refl y1.heap.size y1).alloc (Nat.le_refl _) (.cells #[.slice none 0 0, .slice none 0 0, .slice none 0 0, .slice none 0 0, .slice none 0 0] 34)).block _ (lt27 HA.out)).trans HA.out)
    have HL : Hid (((y1.alloc (.cells #[.slice none 0 0, .slice none 0 0, .slice none 0 0, .slice none 0 0, .slice none 0 0] 34))).heap[w.heap.size + 1 + 1]? = some (.cells #[.int .i64 xa, .int .i64 xt, .int .i64 xq] 33 (0, 0))) := Lib.hid ((((Below.refl y1.heap.size y1).alloc (Nat.le_refl _) (.cells #[.slice none 0 0, .slice none 0 0, .slice none 0 0, .slice none 0 0, .slice none 0 0] 34)).block _ (lt27 HL.out)).trans HL.out)
    have HD := Lib.hid (HD.out.below ((Below.refl y1.heap.size y1).alloc (Nat.le_refl _) (.cells #[.slice none 0 0, .slice none 0 0, .slice none 0 0, .slice none 0 0, .slice none 0 0] 34)))
    have HG : Hid (((y1.alloc (.cells #[.slice none 0 0, .slice none 0 0, .slice none 0 0, .slice none 0 0, .slice none 0 0] 34))).heap[y1.heap.size]? = some (.cells #[.slice none 0 0, .slice none 0 0, .slice none 0 0, .slice none 0 0, .slice none 0 0] 34)) := Lib.hid (show (y1.alloc (.cells #[.slice none 0 0, .slice none 0 0, .slice none 0 0, .slice none 0 0, .slice none 0 0] 34)).heap[y1.heap.size]? = _ from by rw [heap_alloc_new])
    go_simp
    refine hK.out _ _ (by (try dsimp only); exact hKeep) (fun hHeld => ?_); clear hK K hKeep; try simp only [pqZ]
    refine rdZ 2 24 rfl (by kernel_rfl) (fun K hK => ?_)
    have hHd := hHeld
    skip
    have b0 := (bx27 HA.out 0).1
    have b1 := (bx27 HA.out 1).1
    have b2 := (bx27 HA.out 2).1
    have b3 := (bx27 HA.out 3).1
    have hKeep := hHeld
    go_simp
    refine hK.out _ _ (by (try dsimp only); exact hKeep) (fun hHeld => ?_); clear hK K hKeep; try simp only [pqZ]
    refine rdZ 3 25 rfl (by kernel_rfl) (fun K hK => ?_)
    go_simp
    try clear b0 b1 b2 b3
    refine (HSH.out _ hHeld.2).mono ?_
    rintro e y3 ⟨rfl, hk1⟩
    have hKeep := And.intro ((hk1.block _ (lt27 hHeld.1)).trans hHeld.1) (since_step hHeld.2 hk1)
    have HA := Lib.hid ((hk1.block _ (lt27 HA.out)).trans HA.out)
    have HL := Lib.hid ((hk1.block _ (lt27 HL.out)).trans HL.out)
    have HG := Lib.hid ((hk1.block _ (lt27 HG.out)).trans HG.out)
    have HD := Lib.hid (HD.out.below hk1)
    clear hk1
    go_wp2_with fail
    refine hK.out _ _ (by (try dsimp only); exact hKeep) (fun hHeld => ?_); clear hK K hKeep; try simp only [pqZ]
    refine wpAnyH_ready (rs := [5]) (by kernel_rfl) (by simp) ?_
    refine AllReadyH.cons (o := ⟨none, _, _, _, _, _⟩) rfl (fun K hK => ?_) AllReadyH.nil
    have hHd := hHeld
    skip
    have x0 := (bx27 HG.out 0).1
    have x1 := (bx27 HG.out 1).1
    have x2 := (bx27 HG.out 2).1
    have x3 := (bx27 HG.out 3).1
    have x4 := (bx27 HG.out 4).1
    have f0 := (bx27 HG.out 0).2.1
    have f1 := (bx27 HG.out 1).2.1
    have f2 := (bx27 HG.out 2).2.1
    have f3 := (bx27 HG.out 3).2.1
    have f4 := (bx27 HG.out 4).2.1
    have gs := (bx27 HG.out 0).2.2
    have hge : w.heap.size ≤ y1.heap.size := HGE.out
    have hKeep := And.intro ((s5f_27 (ne27 hHeld.1 HG.out (by decide)) (.slice zA asl.length zac) (.slice jA mi.length jc) (.slice qA mp.length qc) (.slice gA ml.length gc) (.slice kA mh.length kc)).trans hHeld.1) (s5b_27 hHeld.2 hge (.slice zA asl.length zac) (.slice jA mi.length jc) (.slice qA mp.length qc) (.slice gA ml.length gc) (.slice kA mh.length kc))
    have HD2 := Lib.hid (HD.out.s5 HG.out hge (.slice zA asl.length zac) (.slice jA mi.length jc) (.slice qA mp.length qc) (.slice gA ml.length gc) (.slice kA mh.length kc))
    have HA2 := Lib.hid ((s5f_27 (ne27 HA.out HG.out (by decide)) (.slice zA asl.length zac) (.slice jA mi.length jc) (.slice qA mp.length qc) (.slice gA ml.length gc) (.slice kA mh.length kc)).trans HA.out)
    have HL2 := Lib.hid ((s5f_27 (ne27 HL.out HG.out (by decide)) (.slice zA asl.length zac) (.slice jA mi.length jc) (.slice qA mp.length qc) (.slice gA ml.length gc) (.slice kA mh.length kc)).trans HL.out)
    have HG2 := Lib.hid (s5_27 HG.out (.slice zA asl.length zac) (.slice jA mi.length jc) (.slice qA mp.length qc) (.slice gA ml.length gc) (.slice kA mh.length kc))
    go_simp
    refine hK.out _ _ (by (try dsimp only); exact hKeep) (fun hHeld => ?_); clear hK K hKeep; try simp only [pqZ]
    refine wpAnyH_ready (rs := [6]) (by kernel_rfl) (by simp) ?_
    refine AllReadyH.cons (o := ⟨none, _, _, _, _, _⟩) rfl (fun K hK => ?_) AllReadyH.nil
    have hHd := hHeld
    skip
    clear x0 x1 x2 x3 x4 f0 f1 f2 f3 f4 gs
    have b0 := (bx27 HA2.out 0).1
    have b1 := (bx27 HA2.out 1).1
    have b2 := (bx27 HA2.out 2).1
    have b3 := (bx27 HA2.out 3).1
    have f0 := (bx27 HA2.out 0).2.1
    have f1 := (bx27 HA2.out 1).2.1
    have f2 := (bx27 HA2.out 2).2.1
    have f3 := (bx27 HA2.out 3).2.1
    have gs := (bx27 HA2.out 0).2.2
    have hge2 : w.heap.size ≤ w.heap.size + 1 := by omega
    have hKeep := And.intro ((s4f_27 (ne27 hHeld.1 HA2.out (by decide)) (.int .i64 cid) (.int .i64 cmem) (.int .i64 ckind) (.slice GA L.length cap)).trans hHeld.1) (s4b_27 hHeld.2 hge2 (.int .i64 cid) (.int .i64 cmem) (.int .i64 ckind) (.slice GA L.length cap))
    have HD3 := Lib.hid (HD2.out.s4 HA2.out hge2 (.int .i64 cid) (.int .i64 cmem) (.int .i64 ckind) (.slice GA L.length cap))
    have HA3 := Lib.hid (s4_27 HA2.out (.int .i64 cid) (.int .i64 cmem) (.int .i64 ckind) (.slice GA L.length cap))
    have HL3 := Lib.hid ((s4f_27 (ne27 HL2.out HA2.out (by decide)) (.int .i64 cid) (.int .i64 cmem) (.int .i64 ckind) (.slice GA L.length cap)).trans HL2.out)
    have HG3 := Lib.hid ((s4f_27 (ne27 HG2.out HA2.out (by decide)) (.int .i64 cid) (.int .i64 cmem) (.int .i64 ckind) (.slice GA L.length cap)).trans HG2.out)
    go_simp
    refine hK.out _ _ (by (try dsimp only); exact hKeep) (fun hHeld => ?_); clear hK K hKeep; try simp only [pqZ]
    refine wpAnyH_done (by kernel_rfl) ?_ _
    have hBL := hHeld.2
    clear hHeld
    go_wp2_with fail
    go_meet
    case rel => exact ⟨y1.heap.size, zA, zac, asl, jA, jc, mi, is, qA, qc, mp, cs, gA, gc, ml, kA, kc, mh, hs, rfl, HD3.out.base (by first | exact Nat.le_refl _ | exact HW0.out.size | omega), HSB.out, HG3.out, HA3.out, HL3.out, hBL⟩
  ·have hHd := hHeld
   skip
   have b0 := (bx27 HA.out 0).1
   have b1 := (bx27 HA.out 1).1
   have b2 := (bx27 HA.out 2).1
   have b3 := (bx27 HA.out 3).1
   have hKeep := hHeld
   go_simp
   refine hK.out _ _ (by (try dsimp only); exact hKeep) (fun hHeld => ?_); clear hK K hKeep; try simp only [pqZ]
   refine wpAnyH_ready (rs := [1, 4]) (by kernel_rfl) (by simp) ?_
   refine AllReadyH.cons (o := ⟨some 23, _, _, _, _, _⟩) rfl (fun K hK => ?_) (AllReadyH.cons (o := ⟨some 9, _, _, _, _, _⟩) rfl (fun K hK => ?_) AllReadyH.nil)
   ·go_simp
    refine (HFW.out _ hHeld.2).mono ?_
    rintro e y1 ⟨⟨zA, zac, asl, jA, jc, mi, is, qA, qc, mp, cs, gA, gc, ml, kA, kc, mh, hs, rfl, hd, hbnd, hsub, hml⟩, hk1⟩
    have hKeep := And.intro ((hk1.block _ (lt27 hHeld.1)).trans hHeld.1) (since_step hHeld.2 hk1)
    have HA := Lib.hid ((hk1.block _ (lt27 HA.out)).trans HA.out)
    have HL := Lib.hid ((hk1.block _ (lt27 HL.out)).trans HL.out)
    have HD := Lib.hid hd
    have HSB := Lib.hid (And.intro hbnd (And.intro hsub hml))
    clear hd hbnd hsub hml hk1
    go_wp2_with fail
    refine hK.out _ _ (by (try dsimp only); exact hKeep) (fun hHeld => ?_); clear hK K hKeep; try simp only [pqZ]
    refine wpAnyH_ready (rs := [3, 4]) (by kernel_rfl) (by simp) ?_
    refine AllReadyH.cons (o := ⟨some 25, _, _, _, _, _⟩) rfl (fun K hK => ?_) (AllReadyH.cons (o := ⟨some 9, _, _, _, _, _⟩) rfl (fun K hK => ?_) AllReadyH.nil)
    ·go_simp
     try clear b0 b1 b2 b3
     refine (HSH.out _ hHeld.2).mono ?_
     rintro e y3 ⟨rfl, hk1⟩
     have hKeep := And.intro ((hk1.block _ (lt27 hHeld.1)).trans hHeld.1) (since_step hHeld.2 hk1)
     have HA := Lib.hid ((hk1.block _ (lt27 HA.out)).trans HA.out)
     have HL := Lib.hid ((hk1.block _ (lt27 HL.out)).trans HL.out)
     have HD := Lib.hid (HD.out.below hk1)
     clear hk1
     go_wp2_with fail
     refine hK.out _ _ (by (try dsimp only); exact hKeep) (fun hHeld => ?_); clear hK K hKeep; try simp only [pqZ]
     refine rdZ 4 9 rfl (by kernel_rfl) (fun K hK => ?_)
     have hHd := hHeld
     skip
     have HGE := Lib.hid hHeld.2.size
     have HHp := Lib.hid hHeld
     have HAp := HA
     have HLp := HL
     have HDp := HD
     have hKeep := And.intro ((((Below.refl y3.heap.size y3).alloc (Nat.le_refl _) (.cells #[.slice none 0 0, .slice none 0 0, .slice none 0 0, .slice none 0 0, .slice none 0 0] 34)).block _ (lt27 hHeld.1)).trans hHeld.1) (since_alloc hHeld.2 (.cells #[.slice none 0 0, .slice none 0 0, .slice none 0 0, .slice none 0 0, .slice none 0 0] 34))
     have HA : Hid (((y3.alloc (.cells #[.slice none 0 0, .slice none 0 0, .slice none 0 0, .slice none 0 0, .slice none 0 0] 34))).heap[w.heap.size + 1]? = some (.cells #[.int .i64 cid, .int .i64 cmem, .int .i64 ckind, .slice GA L0.length cap] 31 (0, 0))) := Lib.hid ((((Below.refl y3.heap.size y3).alloc (Nat.le_refl _) (.cells #[.slice none 0 0, .slice none 0 0, .slice none 0 0, .slice none 0 0, .slice none 0 0] 34)).block _ (lt27 HA.out)).trans HA.out)
     have HL : Hid (((y3.alloc (.cells #[.slice none 0 0, .slice none 0 0, .slice none 0 0, .slice none 0 0, .slice none 0 0] 34))).heap[w.heap.size + 1 + 1]? = some (.cells #[.int .i64 xa, .int .i64 xt, .int .i64 xq] 33 (0, 0))) := Lib.hid ((((Below.refl y3.heap.size y3).alloc (Nat.le_refl _) (.cells #[.slice none 0 0, .slice none 0 0, .slice none 0 0, .slice none 0 0, .slice none 0 0] 34)).block _ (lt27 HL.out)).trans HL.out)
     have HD := Lib.hid (HD.out.below ((Below.refl y3.heap.size y3).alloc (Nat.le_refl _) (.cells #[.slice none 0 0, .slice none 0 0, .slice none 0 0, .slice none 0 0, .slice none 0 0] 34)))
     have HG : Hid (((y3.alloc (.cells #[.slice none 0 0, .slice none 0 0, .slice none 0 0, .slice none 0 0, .slice none 0 0] 34))).heap[y3.heap.size]? = some (.cells #[.slice none 0 0, .slice none 0 0, .slice none 0 0, .slice none 0 0, .slice none 0 0] 34)) := Lib.hid (show (y3.alloc (.cells #[.slice none 0 0, .slice none 0 0, .slice none 0 0, .slice none 0 0, .slice none 0 0] 34)).heap[y3.heap.size]? = _ from by rw [heap_alloc_new])
     go_simp
     refine hK.out _ _ (by (try dsimp only); exact hKeep) (fun hHeld => ?_); clear hK K hKeep; try simp only [pqZ]
     refine wpAnyH_ready (rs := [5]) (by kernel_rfl) (by simp) ?_
     refine AllReadyH.cons (o := ⟨none, _, _, _, _, _⟩) rfl (fun K hK => ?_) AllReadyH.nil
     have hHd := hHeld
     skip
     have x0 := (bx27 HG.out 0).1
     have x1 := (bx27 HG.out 1).1
     have x2 := (bx27 HG.out 2).1
     have x3 := (bx27 HG.out 3).1
     have x4 := (bx27 HG.out 4).1
     have f0 := (bx27 HG.out 0).2.1
     have f1 := (bx27 HG.out 1).2.1
     have f2 := (bx27 HG.out 2).2.1
     have f3 := (bx27 HG.out 3).2.1
     have f4 := (bx27 HG.out 4).2.1
     have gs := (bx27 HG.out 0).2.2
     have hKeep := And.intro ((((Below.refl y3.heap.size y3).alloc (Nat.le_refl _) (.cells #[.slice zA asl.length zac, .slice jA mi.length jc, .slice qA mp.length qc, .slice gA ml.length gc, .slice kA mh.length kc] 34)).block _ (lt27 HHp.out.1)).trans HHp.out.1) (since_alloc HHp.out.2 (.cells #[.slice zA asl.length zac, .slice jA mi.length jc, .slice qA mp.length qc, .slice gA ml.length gc, .slice kA mh.length kc] 34))
     have HD2 := Lib.hid (HDp.out.below ((Below.refl y3.heap.size y3).alloc (Nat.le_refl _) (.cells #[.slice zA asl.length zac, .slice jA mi.length jc, .slice qA mp.length qc, .slice gA ml.length gc, .slice kA mh.length kc] 34)))
     have HA2 := Lib.hid ((((Below.refl y3.heap.size y3).alloc (Nat.le_refl _) (.cells #[.slice zA asl.length zac, .slice jA mi.length jc, .slice qA mp.length qc, .slice gA ml.length gc, .slice kA mh.length kc] 34)).block _ (lt27 HAp.out)).trans HAp.out)
     have HL2 := Lib.hid ((((Below.refl y3.heap.size y3).alloc (Nat.le_refl _) (.cells #[.slice zA asl.length zac, .slice jA mi.length jc, .slice qA mp.length qc, .slice gA ml.length gc, .slice kA mh.length kc] 34)).block _ (lt27 HLp.out)).trans HLp.out)
     have HG2 : Hid ((y3.alloc (.cells #[.slice zA asl.length zac, .slice jA mi.length jc, .slice qA mp.length qc, .slice gA ml.length gc, .slice kA mh.length kc] 34)).heap[y3.heap.size]? = some (.cells #[.slice zA asl.length zac, .slice jA mi.length jc, .slice qA mp.length qc, .slice gA ml.length gc, .slice kA mh.length kc] 34 (0, 0))) := Lib.hid (by rw [heap_alloc_new])
     go_simp
     refine hK.out _ _ (by (try dsimp only); exact hKeep) (fun hHeld => ?_); clear hK K hKeep; try simp only [pqZ]
     refine wpAnyH_ready (rs := [6]) (by kernel_rfl) (by simp) ?_
     refine AllReadyH.cons (o := ⟨none, _, _, _, _, _⟩) rfl (fun K hK => ?_) AllReadyH.nil
     have hHd := hHeld
     skip
     clear x0 x1 x2 x3 x4 f0 f1 f2 f3 f4 gs
     have b0 := (bx27 HA2.out 0).1
     have b1 := (bx27 HA2.out 1).1
     have b2 := (bx27 HA2.out 2).1
     have b3 := (bx27 HA2.out 3).1
     have f0 := (bx27 HA2.out 0).2.1
     have f1 := (bx27 HA2.out 1).2.1
     have f2 := (bx27 HA2.out 2).2.1
     have f3 := (bx27 HA2.out 3).2.1
     have gs := (bx27 HA2.out 0).2.2
     have hge2 : w.heap.size ≤ w.heap.size + 1 := by omega
     have hKeep := And.intro ((s4f_27 (ne27 hHeld.1 HA2.out (by decide)) (.int .i64 cid) (.int .i64 cmem) (.int .i64 ckind) (.slice GA L.length cap)).trans hHeld.1) (s4b_27 hHeld.2 hge2 (.int .i64 cid) (.int .i64 cmem) (.int .i64 ckind) (.slice GA L.length cap))
     have HD3 := Lib.hid (HD2.out.s4 HA2.out hge2 (.int .i64 cid) (.int .i64 cmem) (.int .i64 ckind) (.slice GA L.length cap))
     have HA3 := Lib.hid (s4_27 HA2.out (.int .i64 cid) (.int .i64 cmem) (.int .i64 ckind) (.slice GA L.length cap))
     have HL3 := Lib.hid ((s4f_27 (ne27 HL2.out HA2.out (by decide)) (.int .i64 cid) (.int .i64 cmem) (.int .i64 ckind) (.slice GA L.length cap)).trans HL2.out)
     have HG3 := Lib.hid ((s4f_27 (ne27 HG2.out HA2.out (by decide)) (.int .i64 cid) (.int .i64 cmem) (.int .i64 ckind) (.slice GA L.length cap)).trans HG2.out)
     go_simp
     refine hK.out _ _ (by (try dsimp only); exact hKeep) (fun hHeld => ?_); clear hK K hKeep; try simp only [pqZ]
     refine wpAnyH_done (by kernel_rfl) ?_ _
     have hBL := hHeld.2
     clear hHeld
     go_wp2_with fail
     go_meet
     case rel => exact ⟨y3.heap.size, zA, zac, asl, jA, jc, mi, is, qA, qc, mp, cs, gA, gc, ml, kA, kc, mh, hs, rfl, HD3.out.base (by first | exact Nat.le_refl _ | exact HW0.out.size | omega), HSB.out, HG3.out, HA3.out, HL3.out, hBL⟩
    ·have hHd := hHeld
     skip
     have HGE := Lib.hid hHeld.2.size
     have HHp := Lib.hid hHeld
     have HAp := HA
     have HLp := HL
     have HDp := HD
     have hKeep := And.intro ((((Below.refl y1.heap.size y1).alloc (Nat.le_refl _) (.cells #[.slice none 0 0, .slice none 0 0, .slice none 0 0, .slice none 0 0, .slice none 0 0] 34)).block _ (lt27 hHeld.1)).trans hHeld.1) (since_alloc hHeld.2 (.cells #[.slice none 0 0, .slice none 0 0, .slice none 0 0, .slice none 0 0, .slice none 0 0] 34))
     have HA : Hid (((y1.alloc (.cells #[.slice none 0 0, .slice none 0 0, .slice none 0 0, .slice none 0 0, .slice none 0 0] 34))).heap[w.heap.size + 1]? = some (.cells #[.int .i64 cid, .int .i64 cmem, .int .i64 ckind, .slice GA L0.length cap] 31 (0, 0))) := Lib.hid ((((Below.refl y1.heap.size y1).alloc (Nat.le_refl _) (.cells #[.slice none 0 0, .slice none 0 0, .slice none 0 0, .slice none 0 0, .slice none 0 0] 34)).block _ (lt27 HA.out)).trans HA.out)
     have HL : Hid (((y1.alloc (.cells #[.slice none 0 0, .slice none 0 0, .slice none 0 0, .slice none 0 0, .slice none 0 0] 34))).heap[w.heap.size + 1 + 1]? = some (.cells #[.int .i64 xa, .int .i64 xt, .int .i64 xq] 33 (0, 0))) := Lib.hid ((((Below.refl y1.heap.size y1).alloc (Nat.le_refl _) (.cells #[.slice none 0 0, .slice none 0 0, .slice none 0 0, .slice none 0 0, .slice none 0 0] 34)).block _ (lt27 HL.out)).trans HL.out)
     have HD := Lib.hid (HD.out.below ((Below.refl y1.heap.size y1).alloc (Nat.le_refl _) (.cells #[.slice none 0 0, .slice none 0 0, .slice none 0 0, .slice none 0 0, .slice none 0 0] 34)))
     have HG : Hid (((y1.alloc (.cells #[.slice none 0 0, .slice none 0 0, .slice none 0 0, .slice none 0 0, .slice none 0 0] 34))).heap[y1.heap.size]? = some (.cells #[.slice none 0 0, .slice none 0 0, .slice none 0 0, .slice none 0 0, .slice none 0 0] 34)) := Lib.hid (show (y1.alloc (.cells #[.slice none 0 0, .slice none 0 0, .slice none 0 0, .slice none 0 0, .slice none 0 0] 34)).heap[y1.heap.size]? = _ from by rw [heap_alloc_new])
     go_simp
     refine hK.out _ _ (by (try dsimp only); exact hKeep) (fun hHeld => ?_); clear hK K hKeep; try simp only [pqZ]
     refine rdZ 3 25 rfl (by kernel_rfl) (fun K hK => ?_)
     go_simp
     try clear b0 b1 b2 b3
     refine (HSH.out _ hHeld.2).mono ?_
     rintro e y3 ⟨rfl, hk1⟩
     have hKeep := And.intro ((hk1.block _ (lt27 hHeld.1)).trans hHeld.1) (since_step hHeld.2 hk1)
     have HA := Lib.hid ((hk1.block _ (lt27 HA.out)).trans HA.out)
     have HL := Lib.hid ((hk1.block _ (lt27 HL.out)).trans HL.out)
     have HG := Lib.hid ((hk1.block _ (lt27 HG.out)).trans HG.out)
     have HD := Lib.hid (HD.out.below hk1)
     clear hk1
     go_wp2_with fail
     refine hK.out _ _ (by (try dsimp only); exact hKeep) (fun hHeld => ?_); clear hK K hKeep; try simp only [pqZ]
     refine wpAnyH_ready (rs := [5]) (by kernel_rfl) (by simp) ?_
     refine AllReadyH.cons (o := ⟨none, _, _, _, _, _⟩) rfl (fun K hK => ?_) AllReadyH.nil
     have hHd := hHeld
     skip
     have x0 := (bx27 HG.out 0).1
     have x1 := (bx27 HG.out 1).1
     have x2 := (bx27 HG.out 2).1
     have x3 := (bx27 HG.out 3).1
     have x4 := (bx27 HG.out 4).1
     have f0 := (bx27 HG.out 0).2.1
     have f1 := (bx27 HG.out 1).2.1
     have f2 := (bx27 HG.out 2).2.1
     have f3 := (bx27 HG.out 3).2.1
     have f4 := (bx27 HG.out 4).2.1
     have gs := (bx27 HG.out 0).2.2
     have hge : w.heap.size ≤ y1.heap.size := HGE.out
     have hKeep := And.intro ((s5f_27 (ne27 hHeld.1 HG.out (by decide)) (.slice zA asl.length zac) (.slice jA mi.length jc) (.slice qA mp.length qc) (.slice gA ml.length gc) (.slice kA mh.length kc)).trans hHeld.1) (s5b_27 hHeld.2 hge (.slice zA asl.length zac) (.slice jA mi.length jc) (.slice qA mp.length qc) (.slice gA ml.length gc) (.slice kA mh.length kc))
     have HD2 := Lib.hid (HD.out.s5 HG.out hge (.slice zA asl.length zac) (.slice jA mi.length jc) (.slice qA mp.length qc) (.slice gA ml.length gc) (.slice kA mh.length kc))
     have HA2 := Lib.hid ((s5f_27 (ne27 HA.out HG.out (by decide)) (.slice zA asl.length zac) (.slice jA mi.length jc) (.slice qA mp.length qc) (.slice gA ml.length gc) (.slice kA mh.length kc)).trans HA.out)
     have HL2 := Lib.hid ((s5f_27 (ne27 HL.out HG.out (by decide)) (.slice zA asl.length zac) (.slice jA mi.length jc) (.slice qA mp.length qc) (.slice gA ml.length gc) (.slice kA mh.length kc)).trans HL.out)
     have HG2 := Lib.hid (s5_27 HG.out (.slice zA asl.length zac) (.slice jA mi.length jc) (.slice qA mp.length qc) (.slice gA ml.length gc) (.slice kA mh.length kc))
     go_simp
     refine hK.out _ _ (by (try dsimp only); exact hKeep) (fun hHeld => ?_); clear hK K hKeep; try simp only [pqZ]
     refine wpAnyH_ready (rs := [6]) (by kernel_rfl) (by simp) ?_
     refine AllReadyH.cons (o := ⟨none, _, _, _, _, _⟩) rfl (fun K hK => ?_) AllReadyH.nil
     have hHd := hHeld
     skip
     clear x0 x1 x2 x3 x4 f0 f1 f2 f3 f4 gs
     have b0 := (bx27 HA2.out 0).1
     have b1 := (bx27 HA2.out 1).1
     have b2 := (bx27 HA2.out 2).1
     have b3 := (bx27 HA2.out 3).1
     have f0 := (bx27 HA2.out 0).2.1
     have f1 := (bx27 HA2.out 1).2.1
     have f2 := (bx27 HA2.out 2).2.1
     have f3 := (bx27 HA2.out 3).2.1
     have gs := (bx27 HA2.out 0).2.2
     have hge2 : w.heap.size ≤ w.heap.size + 1 := by omega
     have hKeep := And.intro ((s4f_27 (ne27 hHeld.1 HA2.out (by decide)) (.int .i64 cid) (.int .i64 cmem) (.int .i64 ckind) (.slice GA L.length cap)).trans hHeld.1) (s4b_27 hHeld.2 hge2 (.int .i64 cid) (.int .i64 cmem) (.int .i64 ckind) (.slice GA L.length cap))
     have HD3 := Lib.hid (HD2.out.s4 HA2.out hge2 (.int .i64 cid) (.int .i64 cmem) (.int .i64 ckind) (.slice GA L.length cap))
     have HA3 := Lib.hid (s4_27 HA2.out (.int .i64 cid) (.int .i64 cmem) (.int .i64 ckind) (.slice GA L.length cap))
     have HL3 := Lib.hid ((s4f_27 (ne27 HL2.out HA2.out (by decide)) (.int .i64 cid) (.int .i64 cmem) (.int .i64 ckind) (.slice GA L.length cap)).trans HL2.out)
     have HG3 := Lib.hid ((s4f_27 (ne27 HG2.out HA2.out (by decide)) (.int .i64 cid) (.int .i64 cmem) (.int .i64 ckind) (.slice GA L.length cap)).trans HG2.out)
     go_simp
     refine hK.out _ _ (by (try dsimp only); exact hKeep) (fun hHeld => ?_); clear hK K hKeep; try simp only [pqZ]
     refine wpAnyH_done (by kernel_rfl) ?_ _
     have hBL := hHeld.2
     clear hHeld
     go_wp2_with fail
     go_meet
     case rel => exact ⟨y1.heap.size, zA, zac, asl, jA, jc, mi, is, qA, qc, mp, cs, gA, gc, ml, kA, kc, mh, hs, rfl, HD3.out.base (by first | exact Nat.le_refl _ | exact HW0.out.size | omega), HSB.out, HG3.out, HA3.out, HL3.out, hBL⟩
   ·have hHd := hHeld
    skip
    have HGE := Lib.hid hHeld.2.size
    have HHp := Lib.hid hHeld
    have HAp := HA
    have HLp := HL
    skip
    have hKeep := And.intro ((((Below.refl W0.drew.heap.size W0.drew).alloc (Nat.le_refl _) (.cells #[.slice none 0 0, .slice none 0 0, .slice none 0 0, .slice none 0 0, .slice none 0 0] 34)).block _ (lt27 hHeld.1)).trans hHeld.1) (since_alloc hHeld.2 (.cells #[.slice none 0 0, .slice none 0 0, .slice none 0 0, .slice none 0 0, .slice none 0 0] 34))
    have HA : Hid (((W0.alloc (.cells #[.slice none 0 0, .slice none 0 0, .slice none 0 0, .slice none 0 0, .slice none 0 0] 34)).drew).heap[w.heap.size + 1]? = some (.cells #[.int .i64 cid, .int .i64 cmem, .int .i64 ckind, .slice GA L0.length cap] 31 (0, 0))) := Lib.hid ((((Below.refl W0.drew.heap.size W0.drew).alloc (Nat.le_refl _) (.cells #[.slice none 0 0, .slice none 0 0, .slice none 0 0, .slice none 0 0, .slice none 0 0] 34)).block _ (lt27 HA.out)).trans HA.out)
    have HL : Hid (((W0.alloc (.cells #[.slice none 0 0, .slice none 0 0, .slice none 0 0, .slice none 0 0, .slice none 0 0] 34)).drew).heap[w.heap.size + 1 + 1]? = some (.cells #[.int .i64 xa, .int .i64 xt, .int .i64 xq] 33 (0, 0))) := Lib.hid ((((Below.refl W0.drew.heap.size W0.drew).alloc (Nat.le_refl _) (.cells #[.slice none 0 0, .slice none 0 0, .slice none 0 0, .slice none 0 0, .slice none 0 0] 34)).block _ (lt27 HL.out)).trans HL.out)
    have HG : Hid (((W0.alloc (.cells #[.slice none 0 0, .slice none 0 0, .slice none 0 0, .slice none 0 0, .slice none 0 0] 34)).drew).heap[W0.heap.size]? = some (.cells #[.slice none 0 0, .slice none 0 0, .slice none 0 0, .slice none 0 0, .slice none 0 0] 34)) := Lib.hid (show (W0.drew.alloc (.cells #[.slice none 0 0, .slice none 0 0, .slice none 0 0, .slice none 0 0, .slice none 0 0] 34)).heap[W0.drew.heap.size]? = _ from by rw [heap_alloc_new])
    go_simp
    refine hK.out _ _ (by (try dsimp only); exact hKeep) (fun hHeld => ?_); clear hK K hKeep; try simp only [pqZ]
    refine rdZ 1 23 rfl (by kernel_rfl) (fun K hK => ?_)
    go_simp
    refine (HFW.out _ hHeld.2).mono ?_
    rintro e y1 ⟨⟨zA, zac, asl, jA, jc, mi, is, qA, qc, mp, cs, gA, gc, ml, kA, kc, mh, hs, rfl, hd, hbnd, hsub, hml⟩, hk1⟩
    have hKeep := And.intro ((hk1.block _ (lt27 hHeld.1)).trans hHeld.1) (since_step hHeld.2 hk1)
    have HA := Lib.hid ((hk1.block _ (lt27 HA.out)).trans HA.out)
    have HL := Lib.hid ((hk1.block _ (lt27 HL.out)).trans HL.out)
    have HG := Lib.hid ((hk1.block _ (lt27 HG.out)).trans HG.out)
    have HD := Lib.hid hd
    have HSB := Lib.hid (And.intro hbnd (And.intro hsub hml))
    clear hd hbnd hsub hml hk1
    go_wp2_with fail
    refine hK.out _ _ (by (try dsimp only); exact hKeep) (fun hHeld => ?_); clear hK K hKeep; try simp only [pqZ]
    refine rdZ 3 25 rfl (by kernel_rfl) (fun K hK => ?_)
    go_simp
    try clear b0 b1 b2 b3
    refine (HSH.out _ hHeld.2).mono ?_
    rintro e y3 ⟨rfl, hk1⟩
    have hKeep := And.intro ((hk1.block _ (lt27 hHeld.1)).trans hHeld.1) (since_step hHeld.2 hk1)
    have HA := Lib.hid ((hk1.block _ (lt27 HA.out)).trans HA.out)
    have HL := Lib.hid ((hk1.block _ (lt27 HL.out)).trans HL.out)
    have HG := Lib.hid ((hk1.block _ (lt27 HG.out)).trans HG.out)
    have HD := Lib.hid (HD.out.below hk1)
    clear hk1
    go_wp2_with fail
    refine hK.out _ _ (by (try dsimp only); exact hKeep) (fun hHeld => ?_); clear hK K hKeep; try simp only [pqZ]
    refine wpAnyH_ready (rs := [5]) (by kernel_rfl) (by simp) ?_
    refine AllReadyH.cons (o := ⟨none, _, _, _, _, _⟩) rfl (fun K hK => ?_) AllReadyH.nil
    have hHd := hHeld
    skip
    have x0 := (bx27 HG.out 0).1
    have x1 := (bx27 HG.out 1).1
    have x2 := (bx27 HG.out 2).1
    have x3 := (bx27 HG.out 3).1
    have x4 := (bx27 HG.out 4).1
    have f0 := (bx27 HG.out 0).2.1
    have f1 := (bx27 HG.out 1).2.1
    have f2 := (bx27 HG.out 2).2.1
    have f3 := (bx27 HG.out 3).2.1
    have f4 := (bx27 HG.out 4).2.1
    have gs := (bx27 HG.out 0).2.2
    have hge : w.heap.size ≤ W0.heap.size := HGE.out
    have hKeep := And.intro ((s5f_27 (ne27 hHeld.1 HG.out (by decide)) (.slice zA asl.length zac) (.slice jA mi.length jc) (.slice qA mp.length qc) (.slice gA ml.length gc) (.slice kA mh.length kc)).trans hHeld.1) (s5b_27 hHeld.2 hge (.slice zA asl.length zac) (.slice jA mi.length jc) (.slice qA mp.length qc) (.slice gA ml.length gc) (.slice kA mh.length kc))
    have HD2 := Lib.hid (HD.out.s5 HG.out hge (.slice zA asl.length zac) (.slice jA mi.length jc) (.slice qA mp.length qc) (.slice gA ml.length gc) (.slice kA mh.length kc))
    have HA2 := Lib.hid ((s5f_27 (ne27 HA.out HG.out (by decide)) (.slice zA asl.length zac) (.slice jA mi.length jc) (.slice qA mp.length qc) (.slice gA ml.length gc) (.slice kA mh.length kc)).trans HA.out)
    have HL2 := Lib.hid ((s5f_27 (ne27 HL.out HG.out (by decide)) (.slice zA asl.length zac) (.slice jA mi.length jc) (.slice qA mp.length qc) (.slice gA ml.length gc) (.slice kA mh.length kc)).trans HL.out)
    have HG2 := Lib.hid (s5_27 HG.out (.slice zA asl.length zac) (.slice jA mi.length jc) (.slice qA mp.length qc) (.slice gA ml.length gc) (.slice kA mh.length kc))
    go_simp
    refine hK.out _ _ (by (try dsimp only); exact hKeep) (fun hHeld => ?_); clear hK K hKeep; try simp only [pqZ]
    refine wpAnyH_ready (rs := [6]) (by kernel_rfl) (by simp) ?_
    refine AllReadyH.cons (o := ⟨none, _, _, _, _, _⟩) rfl (fun K hK => ?_) AllReadyH.nil
    have hHd := hHeld
    skip
    clear x0 x1 x2 x3 x4 f0 f1 f2 f3 f4 gs
    have b0 := (bx27 HA2.out 0).1
    have b1 := (bx27 HA2.out 1).1
    have b2 := (bx27 HA2.out 2).1
    have b3 := (bx27 HA2.out 3).1
    have f0 := (bx27 HA2.out 0).2.1
    have f1 := (bx27 HA2.out 1).2.1
    have f2 := (bx27 HA2.out 2).2.1
    have f3 := (bx27 HA2.out 3).2.1
    have gs := (bx27 HA2.out 0).2.2
    have hge2 : w.heap.size ≤ w.heap.size + 1 := by omega
    have hKeep := And.intro ((s4f_27 (ne27 hHeld.1 HA2.out (by decide)) (.int .i64 cid) (.int .i64 cmem) (.int .i64 ckind) (.slice GA L.length cap)).trans hHeld.1) (s4b_27 hHeld.2 hge2 (.int .i64 cid) (.int .i64 cmem) (.int .i64 ckind) (.slice GA L.length cap))
    have HD3 := Lib.hid (HD2.out.s4 HA2.out hge2 (.int .i64 cid) (.int .i64 cmem) (.int .i64 ckind) (.slice GA L.length cap))
    have HA3 := Lib.hid (s4_27 HA2.out (.int .i64 cid) (.int .i64 cmem) (.int .i64 ckind) (.slice GA L.length cap))
    have HL3 := Lib.hid ((s4f_27 (ne27 HL2.out HA2.out (by decide)) (.int .i64 cid) (.int .i64 cmem) (.int .i64 ckind) (.slice GA L.length cap)).trans HL2.out)
    have HG3 := Lib.hid ((s4f_27 (ne27 HG2.out HA2.out (by decide)) (.int .i64 cid) (.int .i64 cmem) (.int .i64 ckind) (.slice GA L.length cap)).trans HG2.out)
    go_simp
    refine hK.out _ _ (by (try dsimp only); exact hKeep) (fun hHeld => ?_); clear hK K hKeep; try simp only [pqZ]
    refine wpAnyH_done (by kernel_rfl) ?_ _
    have hBL := hHeld.2
    clear hHeld
    go_wp2_with fail
    go_meet
    case rel => exact ⟨W0.heap.size, zA, zac, asl, jA, jc, mi, is, qA, qc, mp, cs, gA, gc, ml, kA, kc, mh, hs, rfl, HD3.out.base (by first | exact Nat.le_refl _ | exact HW0.out.size | omega), HSB.out, HG3.out, HA3.out, HL3.out, hBL⟩
  ·have hHd := hHeld
   skip
   have HGE := Lib.hid hHeld.2.size
   have HHp := Lib.hid hHeld
   have HAp := HA
   have HLp := HL
   skip
   have hKeep := And.intro ((((Below.refl W0.drew.heap.size W0.drew).alloc (Nat.le_refl _) (.cells #[.slice none 0 0, .slice none 0 0, .slice none 0 0, .slice none 0 0, .slice none 0 0] 34)).block _ (lt27 hHeld.1)).trans hHeld.1) (since_alloc hHeld.2 (.cells #[.slice none 0 0, .slice none 0 0, .slice none 0 0, .slice none 0 0, .slice none 0 0] 34))
   have HA : Hid (((W0.alloc (.cells #[.slice none 0 0, .slice none 0 0, .slice none 0 0, .slice none 0 0, .slice none 0 0] 34)).drew).heap[w.heap.size + 1]? = some (.cells #[.int .i64 cid, .int .i64 cmem, .int .i64 ckind, .slice GA L0.length cap] 31 (0, 0))) := Lib.hid ((((Below.refl W0.drew.heap.size W0.drew).alloc (Nat.le_refl _) (.cells #[.slice none 0 0, .slice none 0 0, .slice none 0 0, .slice none 0 0, .slice none 0 0] 34)).block _ (lt27 HA.out)).trans HA.out)
   have HL : Hid (((W0.alloc (.cells #[.slice none 0 0, .slice none 0 0, .slice none 0 0, .slice none 0 0, .slice none 0 0] 34)).drew).heap[w.heap.size + 1 + 1]? = some (.cells #[.int .i64 xa, .int .i64 xt, .int .i64 xq] 33 (0, 0))) := Lib.hid ((((Below.refl W0.drew.heap.size W0.drew).alloc (Nat.le_refl _) (.cells #[.slice none 0 0, .slice none 0 0, .slice none 0 0, .slice none 0 0, .slice none 0 0] 34)).block _ (lt27 HL.out)).trans HL.out)
   have HG : Hid (((W0.alloc (.cells #[.slice none 0 0, .slice none 0 0, .slice none 0 0, .slice none 0 0, .slice none 0 0] 34)).drew).heap[W0.heap.size]? = some (.cells #[.slice none 0 0, .slice none 0 0, .slice none 0 0, .slice none 0 0, .slice none 0 0] 34)) := Lib.hid (show (W0.drew.alloc (.cells #[.slice none 0 0, .slice none 0 0, .slice none 0 0, .slice none 0 0, .slice none 0 0] 34)).heap[W0.drew.heap.size]? = _ from by rw [heap_alloc_new])
   go_simp
   refine hK.out _ _ (by (try dsimp only); exact hKeep) (fun hHeld => ?_); clear hK K hKeep; try simp only [pqZ]
   refine wpAnyH_ready (rs := [1, 2]) (by kernel_rfl) (by simp) ?_
   refine AllReadyH.cons (o := ⟨some 23, _, _, _, _, _⟩) rfl (fun K hK => ?_) (AllReadyH.cons (o := ⟨some 24, _, _, _, _, _⟩) rfl (fun K hK => ?_) AllReadyH.nil)
   ·go_simp
    refine (HFW.out _ hHeld.2).mono ?_
    rintro e y1 ⟨⟨zA, zac, asl, jA, jc, mi, is, qA, qc, mp, cs, gA, gc, ml, kA, kc, mh, hs, rfl, hd, hbnd, hsub, hml⟩, hk1⟩
    have hKeep := And.intro ((hk1.block _ (lt27 hHeld.1)).trans hHeld.1) (since_step hHeld.2 hk1)
    have HA := Lib.hid ((hk1.block _ (lt27 HA.out)).trans HA.out)
    have HL := Lib.hid ((hk1.block _ (lt27 HL.out)).trans HL.out)
    have HG := Lib.hid ((hk1.block _ (lt27 HG.out)).trans HG.out)
    have HD := Lib.hid hd
    have HSB := Lib.hid (And.intro hbnd (And.intro hsub hml))
    clear hd hbnd hsub hml hk1
    go_wp2_with fail
    refine hK.out _ _ (by (try dsimp only); exact hKeep) (fun hHeld => ?_); clear hK K hKeep; try simp only [pqZ]
    refine rdZ 2 24 rfl (by kernel_rfl) (fun K hK => ?_)
    have hHd := hHeld
    skip
    have b0 := (bx27 HA.out 0).1
    have b1 := (bx27 HA.out 1).1
    have b2 := (bx27 HA.out 2).1
    have b3 := (bx27 HA.out 3).1
    have hKeep := hHeld
    go_simp
    refine hK.out _ _ (by (try dsimp only); exact hKeep) (fun hHeld => ?_); clear hK K hKeep; try simp only [pqZ]
    refine rdZ 3 25 rfl (by kernel_rfl) (fun K hK => ?_)
    go_simp
    try clear b0 b1 b2 b3
    refine (HSH.out _ hHeld.2).mono ?_
    rintro e y3 ⟨rfl, hk1⟩
    have hKeep := And.intro ((hk1.block _ (lt27 hHeld.1)).trans hHeld.1) (since_step hHeld.2 hk1)
    have HA := Lib.hid ((hk1.block _ (lt27 HA.out)).trans HA.out)
    have HL := Lib.hid ((hk1.block _ (lt27 HL.out)).trans HL.out)
    have HG := Lib.hid ((hk1.block _ (lt27 HG.out)).trans HG.out)
    have HD := Lib.hid (HD.out.below hk1)
    clear hk1
    go_wp2_with fail
    refine hK.out _ _ (by (try dsimp only); exact hKeep) (fun hHeld => ?_); clear hK K hKeep; try simp only [pqZ]
    refine wpAnyH_ready (rs := [5]) (by kernel_rfl) (by simp) ?_
    refine AllReadyH.cons (o := ⟨none, _, _, _, _, _⟩) rfl (fun K hK => ?_) AllReadyH.nil
    have hHd := hHeld
    skip
    have x0 := (bx27 HG.out 0).1
    have x1 := (bx27 HG.out 1).1
    have x2 := (bx27 HG.out 2).1
    have x3 := (bx27 HG.out 3).1
    have x4 := (bx27 HG.out 4).1
    have f0 := (bx27 HG.out 0).2.1
    have f1 := (bx27 HG.out 1).2.1
    have f2 := (bx27 HG.out 2).2.1
    have f3 := (bx27 HG.out 3).2.1
    have f4 := (bx27 HG.out 4).2.1
    have gs := (bx27 HG.out 0).2.2
    have hge : w.heap.size ≤ W0.heap.size := HGE.out
    have hKeep := And.intro ((s5f_27 (ne27 hHeld.1 HG.out (by decide)) (.slice zA asl.length zac) (.slice jA mi.length jc) (.slice qA mp.length qc) (.slice gA ml.length gc) (.slice kA mh.length kc)).trans hHeld.1) (s5b_27 hHeld.2 hge (.slice zA asl.length zac) (.slice jA mi.length jc) (.slice qA mp.length qc) (.slice gA ml.length gc) (.slice kA mh.length kc))
    have HD2 := Lib.hid (HD.out.s5 HG.out hge (.slice zA asl.length zac) (.slice jA mi.length jc) (.slice qA mp.length qc) (.slice gA ml.length gc) (.slice kA mh.length kc))
    have HA2 := Lib.hid ((s5f_27 (ne27 HA.out HG.out (by decide)) (.slice zA asl.length zac) (.slice jA mi.length jc) (.slice qA mp.length qc) (.slice gA ml.length gc) (.slice kA mh.length kc)).trans HA.out)
    have HL2 := Lib.hid ((s5f_27 (ne27 HL.out HG.out (by decide)) (.slice zA asl.length zac) (.slice jA mi.length jc) (.slice qA mp.length qc) (.slice gA ml.length gc) (.slice kA mh.length kc)).trans HL.out)
    have HG2 := Lib.hid (s5_27 HG.out (.slice zA asl.length zac) (.slice jA mi.length jc) (.slice qA mp.length qc) (.slice gA ml.length gc) (.slice kA mh.length kc))
    go_simp
    refine hK.out _ _ (by (try dsimp only); exact hKeep) (fun hHeld => ?_); clear hK K hKeep; try simp only [pqZ]
    refine wpAnyH_ready (rs := [6]) (by kernel_rfl) (by simp) ?_
    refine AllReadyH.cons (o := ⟨none, _, _, _, _, _⟩) rfl (fun K hK => ?_) AllReadyH.nil
    have hHd := hHeld
    skip
    clear x0 x1 x2 x3 x4 f0 f1 f2 f3 f4 gs
    have b0 := (bx27 HA2.out 0).1
    have b1 := (bx27 HA2.out 1).1
    have b2 := (bx27 HA2.out 2).1
    have b3 := (bx27 HA2.out 3).1
    have f0 := (bx27 HA2.out 0).2.1
    have f1 := (bx27 HA2.out 1).2.1
    have f2 := (bx27 HA2.out 2).2.1
    have f3 := (bx27 HA2.out 3).2.1
    have gs := (bx27 HA2.out 0).2.2
    have hge2 : w.heap.size ≤ w.heap.size + 1 := by omega
    have hKeep := And.intro ((s4f_27 (ne27 hHeld.1 HA2.out (by decide)) (.int .i64 cid) (.int .i64 cmem) (.int .i64 ckind) (.slice GA L.length cap)).trans hHeld.1) (s4b_27 hHeld.2 hge2 (.int .i64 cid) (.int .i64 cmem) (.int .i64 ckind) (.slice GA L.length cap))
    have HD3 := Lib.hid (HD2.out.s4 HA2.out hge2 (.int .i64 cid) (.int .i64 cmem) (.int .i64 ckind) (.slice GA L.length cap))
    have HA3 := Lib.hid (s4_27 HA2.out (.int .i64 cid) (.int .i64 cmem) (.int .i64 ckind) (.slice GA L.length cap))
    have HL3 := Lib.hid ((s4f_27 (ne27 HL2.out HA2.out (by decide)) (.int .i64 cid) (.int .i64 cmem) (.int .i64 ckind) (.slice GA L.length cap)).trans HL2.out)
    have HG3 := Lib.hid ((s4f_27 (ne27 HG2.out HA2.out (by decide)) (.int .i64 cid) (.int .i64 cmem) (.int .i64 ckind) (.slice GA L.length cap)).trans HG2.out)
    go_simp
    refine hK.out _ _ (by (try dsimp only); exact hKeep) (fun hHeld => ?_); clear hK K hKeep; try simp only [pqZ]
    refine wpAnyH_done (by kernel_rfl) ?_ _
    have hBL := hHeld.2
    clear hHeld
    go_wp2_with fail
    go_meet
    case rel => exact ⟨W0.heap.size, zA, zac, asl, jA, jc, mi, is, qA, qc, mp, cs, gA, gc, ml, kA, kc, mh, hs, rfl, HD3.out.base (by first | exact Nat.le_refl _ | exact HW0.out.size | omega), HSB.out, HG3.out, HA3.out, HL3.out, hBL⟩
   ·have hHd := hHeld
    skip
    have b0 := (bx27 HA.out 0).1
    have b1 := (bx27 HA.out 1).1
    have b2 := (bx27 HA.out 2).1
    have b3 := (bx27 HA.out 3).1
    have hKeep := hHeld
    go_simp
    refine hK.out _ _ (by (try dsimp only); exact hKeep) (fun hHeld => ?_); clear hK K hKeep; try simp only [pqZ]
    refine rdZ 1 23 rfl (by kernel_rfl) (fun K hK => ?_)
    go_simp
    refine (HFW.out _ hHeld.2).mono ?_
    rintro e y1 ⟨⟨zA, zac, asl, jA, jc, mi, is, qA, qc, mp, cs, gA, gc, ml, kA, kc, mh, hs, rfl, hd, hbnd, hsub, hml⟩, hk1⟩
    have hKeep := And.intro ((hk1.block _ (lt27 hHeld.1)).trans hHeld.1) (since_step hHeld.2 hk1)
    have HA := Lib.hid ((hk1.block _ (lt27 HA.out)).trans HA.out)
    have HL := Lib.hid ((hk1.block _ (lt27 HL.out)).trans HL.out)
    have HG := Lib.hid ((hk1.block _ (lt27 HG.out)).trans HG.out)
    have HD := Lib.hid hd
    have HSB := Lib.hid (And.intro hbnd (And.intro hsub hml))
    clear hd hbnd hsub hml hk1
    go_wp2_with fail
    refine hK.out _ _ (by (try dsimp only); exact hKeep) (fun hHeld => ?_); clear hK K hKeep; try simp only [pqZ]
    refine rdZ 3 25 rfl (by kernel_rfl) (fun K hK => ?_)
    go_simp
    try clear b0 b1 b2 b3
    refine (HSH.out _ hHeld.2).mono ?_
    rintro e y3 ⟨rfl, hk1⟩
    have hKeep := And.intro ((hk1.block _ (lt27 hHeld.1)).trans hHeld.1) (since_step hHeld.2 hk1)
    have HA := Lib.hid ((hk1.block _ (lt27 HA.out)).trans HA.out)
    have HL := Lib.hid ((hk1.block _ (lt27 HL.out)).trans HL.out)
    have HG := Lib.hid ((hk1.block _ (lt27 HG.out)).trans HG.out)
    have HD := Lib.hid (HD.out.below hk1)
    clear hk1
    go_wp2_with fail
    refine hK.out _ _ (by (try dsimp only); exact hKeep) (fun hHeld => ?_); clear hK K hKeep; try simp only [pqZ]
    refine wpAnyH_ready (rs := [5]) (by kernel_rfl) (by simp) ?_
    refine AllReadyH.cons (o := ⟨none, _, _, _, _, _⟩) rfl (fun K hK => ?_) AllReadyH.nil
    have hHd := hHeld
    skip
    have x0 := (bx27 HG.out 0).1
    have x1 := (bx27 HG.out 1).1
    have x2 := (bx27 HG.out 2).1
    have x3 := (bx27 HG.out 3).1
    have x4 := (bx27 HG.out 4).1
    have f0 := (bx27 HG.out 0).2.1
    have f1 := (bx27 HG.out 1).2.1
    have f2 := (bx27 HG.out 2).2.1
    have f3 := (bx27 HG.out 3).2.1
    have f4 := (bx27 HG.out 4).2.1
    have gs := (bx27 HG.out 0).2.2
    have hge : w.heap.size ≤ W0.heap.size := HGE.out
    have hKeep := And.intro ((s5f_27 (ne27 hHeld.1 HG.out (by decide)) (.slice zA asl.length zac) (.slice jA mi.length jc) (.slice qA mp.length qc) (.slice gA ml.length gc) (.slice kA mh.length kc)).trans hHeld.1) (s5b_27 hHeld.2 hge (.slice zA asl.length zac) (.slice jA mi.length jc) (.slice qA mp.length qc) (.slice gA ml.length gc) (.slice kA mh.length kc))
    have HD2 := Lib.hid (HD.out.s5 HG.out hge (.slice zA asl.length zac) (.slice jA mi.length jc) (.slice qA mp.length qc) (.slice gA ml.length gc) (.slice kA mh.length kc))
    have HA2 := Lib.hid ((s5f_27 (ne27 HA.out HG.out (by decide)) (.slice zA asl.length zac) (.slice jA mi.length jc) (.slice qA mp.length qc) (.slice gA ml.length gc) (.slice kA mh.length kc)).trans HA.out)
    have HL2 := Lib.hid ((s5f_27 (ne27 HL.out HG.out (by decide)) (.slice zA asl.length zac) (.slice jA mi.length jc) (.slice qA mp.length qc) (.slice gA ml.length gc) (.slice kA mh.length kc)).trans HL.out)
    have HG2 := Lib.hid (s5_27 HG.out (.slice zA asl.length zac) (.slice jA mi.length jc) (.slice qA mp.length qc) (.slice gA ml.length gc) (.slice kA mh.length kc))
    go_simp
    refine hK.out _ _ (by (try dsimp only); exact hKeep) (fun hHeld => ?_); clear hK K hKeep; try simp only [pqZ]
    refine wpAnyH_ready (rs := [6]) (by kernel_rfl) (by simp) ?_
    refine AllReadyH.cons (o := ⟨none, _, _, _, _, _⟩) rfl (fun K hK => ?_) AllReadyH.nil
    have hHd := hHeld
    skip
    clear x0 x1 x2 x3 x4 f0 f1 f2 f3 f4 gs
    have b0 := (bx27 HA2.out 0).1
    have b1 := (bx27 HA2.out 1).1
    have b2 := (bx27 HA2.out 2).1
    have b3 := (bx27 HA2.out 3).1
    have f0 := (bx27 HA2.out 0).2.1
    have f1 := (bx27 HA2.out 1).2.1
    have f2 := (bx27 HA2.out 2).2.1
    have f3 := (bx27 HA2.out 3).2.1
    have gs := (bx27 HA2.out 0).2.2
    have hge2 : w.heap.size ≤ w.heap.size + 1 := by omega
    have hKeep := And.intro ((s4f_27 (ne27 hHeld.1 HA2.out (by decide)) (.int .i64 cid) (.int .i64 cmem) (.int .i64 ckind) (.slice GA L.length cap)).trans hHeld.1) (s4b_27 hHeld.2 hge2 (.int .i64 cid) (.int .i64 cmem) (.int .i64 ckind) (.slice GA L.length cap))
    have HD3 := Lib.hid (HD2.out.s4 HA2.out hge2 (.int .i64 cid) (.int .i64 cmem) (.int .i64 ckind) (.slice GA L.length cap))
    have HA3 := Lib.hid (s4_27 HA2.out (.int .i64 cid) (.int .i64 cmem) (.int .i64 ckind) (.slice GA L.length cap))
    have HL3 := Lib.hid ((s4f_27 (ne27 HL2.out HA2.out (by decide)) (.int .i64 cid) (.int .i64 cmem) (.int .i64 ckind) (.slice GA L.length cap)).trans HL2.out)
    have HG3 := Lib.hid ((s4f_27 (ne27 HG2.out HA2.out (by decide)) (.int .i64 cid) (.int .i64 cmem) (.int .i64 ckind) (.slice GA L.length cap)).trans HG2.out)
    go_simp
    refine hK.out _ _ (by (try dsimp only); exact hKeep) (fun hHeld => ?_); clear hK K hKeep; try simp only [pqZ]
    refine wpAnyH_done (by kernel_rfl) ?_ _
    have hBL := hHeld.2
    clear hHeld
    go_wp2_with fail
    go_meet
    case rel => exact ⟨W0.heap.size, zA, zac, asl, jA, jc, mi, is, qA, qc, mp, cs, gA, gc, ml, kA, kc, mh, hs, rfl, HD3.out.base (by first | exact Nat.le_refl _ | exact HW0.out.size | omega), HSB.out, HG3.out, HA3.out, HL3.out, hBL⟩
 case rest =>
  obtain ⟨gy, zA, zac, asl, jA, jc, mi, is, qA, qc, mp, cs, gA, gc, ml, kA, kc, mh, hs, rfl, hd, ⟨hbnd, hsub, hml⟩, hg, ha, hl, hB⟩ := hcut
  have HD := Lib.hid hd
  have HSB := Lib.hid hbnd
  have HSUB := Lib.hid (And.intro hsub hml)
  have HG := Lib.hid hg
  have HA := Lib.hid ha
  have HL := Lib.hid hl
  have HB := Lib.hid hB
  have HUN := Lib.hid (runits_any_Acct4 cid cmem ckind GA cap L wc (by have := HLL.out.1; omega) (HLL.out.2.2 _ hB))
  have b0 := (bx27 ha 0).1
  have b1 := (bx27 ha 1).1
  have b2 := (bx27 ha 2).1
  have b3 := (bx27 ha 3).1
  clear hd hbnd hsub hml hg ha hl hB HFW HSH HQ HS0 HW0
  go_wp2_with fail
  refine HUN.out.mono ?_
  rintro e y4 ⟨⟨UA, uC, rfl, ownU⟩, hb⟩
  clear b0 b1 b2 b3 HUN
  have HD := Lib.hid (HD.out.below hb)
  have HB := Lib.hid (since_step HB.out hb)
  have HG := Lib.hid ((hb.block _ (lt27 HG.out)).trans HG.out)
  have HA := Lib.hid ((hb.block _ (lt27 HA.out)).trans HA.out)
  have HL := Lib.hid ((hb.block _ (lt27 HL.out)).trans HL.out)
  have HUI := Lib.hid (unL_in27 (id := cid) (kind := ckind) (L := L) HIN.out.1 HLL.out.2.1)
  have HOU := Lib.hid ownU
  clear hb ownU
  generalize unL cid ckind L = us at *
  by_cases hz : us.length = 0
  ·have hzb : ((us.length : Int) == 0) = true := by rw [hz]; rfl
   clear hz
   go_wp2_with fail
   refine (HLV.out _).mono ?_
   rintro e v9 ⟨rfl, hb9⟩
   have hB9 := since_step HB.out hb9
   go_wp2_with fail
   go_ret
   exact ⟨rfl, hB9⟩
  ·have hzb : ((us.length : Int) == 0) = false := by
    have : (us.length : Int) ≠ 0 := by omega
    simpa using this
   have hzp : 0 < us.length := by omega
   have hzi : (0 : Int) < (us.length : Int) := by omega
   clear hz
   by_cases hneg : a3 < 0
   ·have dneg : decide (a3 < 0) = true := decide_eq_true hneg
    go_wp2_with fail
    refine (HLV.out _).mono ?_
    rintro e v9 ⟨rfl, hb9⟩
    have hB9 := since_step HB.out hb9
    go_wp2_with fail
    go_ret
    exact ⟨rfl, hB9⟩
   ·have dneg : decide (a3 < 0) = false := decide_eq_false hneg
    have HNEG := Lib.hid hneg
    obtain ⟨ub, uo, hUA, hubw, hu⟩ := (Sl.of_own HOU.out).un (k := 0) hzp
    have HUV := Lib.hid (HUI.out us[0] (List.getElem_mem hzp))
    generalize us[0] = v at *
    obtain ⟨ua, uc⟩ := v
    obtain ⟨gu0, gu1⟩ := hu
    simp only [Nat.zero_mul, Nat.add_zero] at gu0 gu1 HUV
    subst hUA
    clear HOU hneg HUI
    have hbA := since_alloc (since_alloc (Below.refl y4.heap.size y4) (.cells #[.int .i64 ua, .int .i64 uc] 41)) (.cells #[.int .i64 ua, .int .i64 uc] 41)
    have hg1 : ((y4.alloc (.cells #[.int .i64 ua, .int .i64 uc] 41)).alloc (.cells #[.int .i64 ua, .int .i64 uc] 41)).heap[y4.heap.size]? = some (.cells #[.int .i64 ua, .int .i64 uc] 41 (0, 0)) := ((since_alloc (Below.refl (y4.alloc (.cells #[.int .i64 ua, .int .i64 uc] 41)).heap.size (y4.alloc (.cells #[.int .i64 ua, .int .i64 uc] 41))) (.cells #[.int .i64 ua, .int .i64 uc] 41)).block _ (by simp)).trans (by rw [heap_alloc_new])
    have hg2 : ((y4.alloc (.cells #[.int .i64 ua, .int .i64 uc] 41)).alloc (.cells #[.int .i64 ua, .int .i64 uc] 41)).heap[y4.heap.size + 1]? = some (.cells #[.int .i64 ua, .int .i64 uc] 41 (0, 0)) := by rw [show y4.heap.size + 1 = (y4.alloc (.cells #[.int .i64 ua, .int .i64 uc] 41)).heap.size by simp, heap_alloc_new]
    have HGE2 : Hid (w.heap.size ≤ y4.heap.size + 1) := Lib.hid (by have := HB.out.size; omega)
    have HN12 : Hid (y4.heap.size ≠ y4.heap.size + 1) := Lib.hid (by omega)
    have HD := Lib.hid (HD.out.below hbA)
    have HB := Lib.hid (since_step HB.out hbA)
    have HG := Lib.hid ((hbA.block _ (lt27 HG.out)).trans HG.out)
    have HA := Lib.hid ((hbA.block _ (lt27 HA.out)).trans HA.out)
    have HL := Lib.hid ((hbA.block _ (lt27 HL.out)).trans HL.out)
    have HG1 := Lib.hid hg1
    have HG2 := Lib.hid hg2
    clear hbA hg1 hg2
    have a2 : ((y4.alloc (.cells #[.int .i64 ua, .int .i64 uc] 41)).alloc (.cells #[.int .i64 ua, .int .i64 uc] 41)).cell? ⟨w.heap.size + 1, 2, none⟩ = some (.int .i64 ckind) := (bx27 HA.out 2).1
    go_upto_if 42 with fail
    clear a2 gu0 gu1 hubw
    generalize ((y4.alloc (.cells #[.int .i64 ua, .int .i64 uc] 41)).alloc (.cells #[.int .i64 ua, .int .i64 uc] 41)) = W5 at *
    generalize y4.heap.size + 1 = g2 at *
    generalize y4.heap.size = g1 at *
    obtain ⟨wa, wl, hwh⟩ : ∃ wa wl : Int, (if ckind = 2 then (cid, (0 : Int)) else (ua, uc)) = (wa, wl) := ⟨_, _, rfl⟩
    have HWH := Lib.hid hwh
    clear hwh
    go_cut [12] (fun s12 wx => s12 = .pointer (some ⟨g2, 0, none⟩) ∧ wx.heap[g2]? = some (.cells #[.int .i64 wa, .int .i64 wl] 41 (0, 0)) ∧ SDL w w.heap.size wx zA zac asl jA jc mi is qA qc mp cs gA ml kA kc mh hs ∧ wx.heap[gy]? = some (.cells #[.slice zA asl.length zac, .slice jA mi.length jc, .slice qA mp.length qc, .slice gA ml.length gc, .slice kA mh.length kc] 34 (0, 0)) ∧ wx.heap[w.heap.size + 1]? = some (.cells #[.int .i64 cid, .int .i64 cmem, .int .i64 ckind, .slice GA L.length cap] 31 (0, 0)) ∧ wx.heap[w.heap.size + 1 + 1]? = some (.cells #[.int .i64 xa, .int .i64 xt, .int .i64 xq] 33 (0, 0)) ∧ wx.heap[g1]? = some (.cells #[.int .i64 ua, .int .i64 uc] 41 (0, 0)) ∧ Below w.heap.size w wx)
    case first =>
     by_cases h2 : ckind = 2
     ·have k2 : (ckind == 2) = true := by simpa using h2
      obtain ⟨rfl, rfl⟩ : wa = cid ∧ wl = 0 := by have h9 := HWH.out; rw [if_pos h2] at h9; injection h9 with h9 h8; exact ⟨h9.symm, h8.symm⟩
      clear h2
      have x0 := (bx27 HG2.out 0).1
      have x1 := (bx27 HG2.out 1).1
      have f0 := (bx27 HG2.out 0).2.1
      have f1 := (bx27 HG2.out 1).2.1
      have gs := (bx27 HG2.out 0).2.2
      have a0 := (bx27 HA.out 0).1
      have hgg : w.heap.size ≤ g2 := HGE2.out
      go_wp2_with fail
      go_meet
      case rel =>
       have hp := HG2.out
       have hp2 := setb27 (i := 0) (.int .i64 wa) hp
       refine ⟨rfl, setb27 (i := 1) (.int .i64 0) hp2, (HD.out.sett (p := ⟨g2, 0, none⟩) hp (by decide) (by decide) (by decide) (by decide) hgg _).sett (p := ⟨g2, 1, none⟩) hp2 (by decide) (by decide) (by decide) (by decide) hgg _, ?_, ?_, ?_, ?_, Below.setCell (Below.setCell HB.out (p := ⟨g2, 0, none⟩) hgg _) (p := ⟨g2, 1, none⟩) hgg _⟩
       ·rw [setf27 (p := ⟨g2, 1, none⟩) _ (ne27 HG.out HG2.out (by decide)), setf27 (p := ⟨g2, 0, none⟩) _ (ne27 HG.out HG2.out (by decide))]; exact HG.out
       ·rw [setf27 (p := ⟨g2, 1, none⟩) _ (ne27 HA.out HG2.out (by decide)), setf27 (p := ⟨g2, 0, none⟩) _ (ne27 HA.out HG2.out (by decide))]; exact HA.out
       ·rw [setf27 (p := ⟨g2, 1, none⟩) _ (ne27 HL.out HG2.out (by decide)), setf27 (p := ⟨g2, 0, none⟩) _ (ne27 HL.out HG2.out (by decide))]; exact HL.out
       ·rw [setf27 (p := ⟨g2, 1, none⟩) _ HN12.out, setf27 (p := ⟨g2, 0, none⟩) _ HN12.out]; exact HG1.out
     ·have k2 : (ckind == 2) = false := by simpa using h2
      obtain ⟨rfl, rfl⟩ : wa = ua ∧ wl = uc := by have h9 := HWH.out; rw [if_neg h2] at h9; injection h9 with h9 h8; exact ⟨h9.symm, h8.symm⟩
      clear h2
      have a2 := (bx27 HA.out 2).1
      go_wp2_with fail
      go_meet
      case rel => exact ⟨rfl, HG2.out, HD.out, HG.out, HA.out, HL.out, HG1.out, HB.out⟩
    case rest =>
     obtain ⟨rfl, hg2, hd, hg, ha, hl, hg1, hB⟩ := hcut
     have HG2 := Lib.hid hg2
     have HD := Lib.hid hd
     have HG := Lib.hid hg
     have HA := Lib.hid ha
     have HL := Lib.hid hl
     have HG1 := Lib.hid hg1
     have HB := Lib.hid hB
     clear hg2 hd hg ha hl hg1 hB
     have HEX := Lib.hid (excess_any zA zac asl jA jc mi is qA qc mp cs gA gc ml kA kc mh hs cid cmem ckind GA cap L ⟨wa, wl⟩ wc HSB.out (by have := HLL.out.1; omega) HD.out.sd (HLL.out.2.2 _ HB.out))
     unfold Un.val at HEX
     obtain ⟨n, e, he⟩ : ∃ n e, exR asl is cs ml hs cid ckind L ⟨wa, wl⟩ = (n, e) := ⟨_, _, rfl⟩
     simp only [he] at HEX
     have HE := Lib.hid he
     have s0 := (bx27 HG.out 0).1
     have s1 := (bx27 HG.out 1).1
     have s2 := (bx27 HG.out 2).1
     have s3 := (bx27 HG.out 3).1
     have s4 := (bx27 HG.out 4).1
     have a0 := (bx27 HA.out 0).1
     have a1 := (bx27 HA.out 1).1
     have a2 := (bx27 HA.out 2).1
     have a3' := (bx27 HA.out 3).1
     have x0 := (bx27 HG2.out 0).1
     have x1 := (bx27 HG2.out 1).1
     clear he
     go_wp2_with fail
     refine HEX.out.mono ?_
     rintro e' y6 ⟨rfl, hb⟩
     clear s0 s1 s2 s3 s4 a0 a1 a2 a3' x0 x1 HEX
     have HD := Lib.hid (HD.out.below hb)
     have HB := Lib.hid (since_step HB.out hb)
     have HG := Lib.hid ((hb.block _ (lt27 HG.out)).trans HG.out)
     have HA := Lib.hid ((hb.block _ (lt27 HA.out)).trans HA.out)
     have HL := Lib.hid ((hb.block _ (lt27 HL.out)).trans HL.out)
     have HG2 := Lib.hid ((hb.block _ (lt27 HG2.out)).trans HG2.out)
     have HG1 := Lib.hid ((hb.block _ (lt27 HG1.out)).trans HG1.out)
     clear hb
     by_cases h0 : e = 0
     ·subst h0
      have hbA := since_alloc (Below.refl y6.heap.size y6) (.cells #[.slice zA asl.length zac, .slice jA mi.length jc, .slice qA mp.length qc, .slice gA ml.length gc, .slice kA mh.length kc] 34)
      have hm : (y6.alloc (.cells #[.slice zA asl.length zac, .slice jA mi.length jc, .slice qA mp.length qc, .slice gA ml.length gc, .slice kA mh.length kc] 34)).heap[y6.heap.size]? = some (.cells #[.slice zA asl.length zac, .slice jA mi.length jc, .slice qA mp.length qc, .slice gA ml.length gc, .slice kA mh.length kc] 34 (0, 0)) := by rw [heap_alloc_new]
      have HGM : Hid (w.heap.size ≤ y6.heap.size) := Lib.hid HB.out.size
      have HNM : Hid (gy ≠ y6.heap.size) := Lib.hid (by have := lt27 HG.out; omega)
      have s0 := (bx27 HG.out 0).1
      have s1 := (bx27 HG.out 1).1
      have s2 := (bx27 HG.out 2).1
      have s3 := (bx27 HG.out 3).1
      have s4 := (bx27 HG.out 4).1
      have HD := Lib.hid (HD.out.below hbA)
      have HB := Lib.hid (since_step HB.out hbA)
      have HG := Lib.hid ((hbA.block _ (lt27 HG.out)).trans HG.out)
      have HA := Lib.hid ((hbA.block _ (lt27 HA.out)).trans HA.out)
      have HL := Lib.hid ((hbA.block _ (lt27 HL.out)).trans HL.out)
      have HG2 := Lib.hid ((hbA.block _ (lt27 HG2.out)).trans HG2.out)
      have HG1 := Lib.hid ((hbA.block _ (lt27 HG1.out)).trans HG1.out)
      have HM := Lib.hid hm
      clear hbA hm
      go_upto_region 13 with fail
      clear s0 s1 s2 s3 s4
      generalize (y6.alloc (.cells #[.slice zA asl.length zac, .slice jA mi.length jc, .slice qA mp.length qc, .slice gA ml.length gc, .slice kA mh.length kc] 34)) = W7 at *
      generalize y6.heap.size = gm at *
      have HPUT := Lib.hid (Hq.rhput_any kA kc mh hs ua uc xa xt xq W7 HSB.out.2.2.2.2.1 (fun g hg => by have := HSB.out.2.2.2.2.2.1 g hg; omega) HIN.out.2.1 HSB.out.2.2.2.2.2.2 HD.out.cap HD.out.sd.2.2.2.2.1 HD.out.sd.2.2.2.2.2)
      obtain ⟨f1, hsN, hR⟩ : ∃ f1 hsN, Hq.chgHR (fun m => putLR m ⟨xa, xt, xq⟩) hs ua uc = (f1, hsN) := ⟨_, _, rfl⟩
      simp only [hR] at HPUT
      have HR := Lib.hid hR
      clear hR
      have t4 := (bx27 HG.out 4).1
      have x0 := (bx27 HG1.out 0).1
      have x1 := (bx27 HG1.out 1).1
      have l0 := (bx27 HL.out 0).1
      have l1 := (bx27 HL.out 1).1
      have l2 := (bx27 HL.out 2).1
      go_upto_if 70 with fail
      refine HPUT.out.mono ?_
      rintro e' y7 ⟨⟨mh2, kA2, kc2, rfl, sl7, tb7, _⟩, hb⟩
      clear t4 x0 x1 l0 l1 l2 HPUT
      have HD := Lib.hid (HD.out.below hb)
      have HB := Lib.hid (since_step HB.out hb)
      have HG := Lib.hid ((hb.block _ (lt27 HG.out)).trans HG.out)
      have HA := Lib.hid ((hb.block _ (lt27 HA.out)).trans HA.out)
      have HL := Lib.hid ((hb.block _ (lt27 HL.out)).trans HL.out)
      have HG2 := Lib.hid ((hb.block _ (lt27 HG2.out)).trans HG2.out)
      have HG1 := Lib.hid ((hb.block _ (lt27 HG1.out)).trans HG1.out)
      have HM := Lib.hid ((hb.block _ (lt27 HM.out)).trans HM.out)
      have HSL := Lib.hid sl7
      have HTB := Lib.hid tb7
      clear hb sl7 tb7
      go_upto_if 70 with fail
      go_cut [15] (fun s15 wx => s15 = .pointer (some ⟨gm, 0, none⟩) ∧ ∃ (kA2 : Option Addr) (kc2 : Nat) (mh2 : List Hd) (hs2 : List Hc), wx.heap[gm]? = some (.cells #[.slice zA asl.length zac, .slice jA mi.length jc, .slice qA mp.length qc, .slice gA ml.length gc, .slice kA2 mh2.length kc2] 34 (0, 0)) ∧ Sl wx kA2 (rc Hd.cells mh2) ∧ HdTab wx mh2 hs2 ∧ (hs2 = hs ∨ Hq.chgHR (fun m => putLR m ⟨xa, xt, xq⟩) hs ua uc = (0, hs2)) ∧ SDL w w.heap.size wx zA zac asl jA jc mi is qA qc mp cs gA ml kA kc mh hs ∧ wx.heap[gy]? = some (.cells #[.slice zA asl.length zac, .slice jA mi.length jc, .slice qA mp.length qc, .slice gA ml.length gc, .slice kA mh.length kc] 34 (0, 0)) ∧ wx.heap[w.heap.size + 1]? = some (.cells #[.int .i64 cid, .int .i64 cmem, .int .i64 ckind, .slice GA L.length cap] 31 (0, 0)) ∧ wx.heap[g1]? = some (.cells #[.int .i64 ua, .int .i64 uc] 41 (0, 0)) ∧ wx.heap[g2]? = some (.cells #[.int .i64 wa, .int .i64 wl] 41 (0, 0)) ∧ Below w.heap.size w wx)
      case first =>
       by_cases hf : f1 = 0
       ·subst hf
        have x4 := (bx27 HM.out 4).1
        have f4 := (bx27 HM.out 4).2.1
        have gs := (bx27 HM.out 4).2.2
        go_wp2_with fail
        go_meet
        case rel =>
         exact ⟨rfl, kA2, kc2, mh2, hsN, setb27 (i := 4) (.slice kA2 mh2.length kc2) HM.out, HSL.out.offS27 HM.out (all5S27 _ _ _ _ _ _ _ _ _ _ _ _ _ _ _) (headI_Hd _) 4 _, HTB.out.offS27 HM.out (all5S27 _ _ _ _ _ _ _ _ _ _ _ _ _ _ _) 4 _, .inr HR.out, HD.out.sett (p := ⟨gm, 4, none⟩) HM.out (by decide) (by decide) (by decide) (by decide) HGM.out _, (by rw [setf27 (p := ⟨gm, 4, none⟩) _ HNM.out]; exact HG.out), (by rw [setf27 (p := ⟨gm, 4, none⟩) _ (ne27 HA.out HM.out (by decide))]; exact HA.out), (by rw [setf27 (p := ⟨gm, 4, none⟩) _ (ne27 HG1.out HM.out (by decide))]; exact HG1.out), (by rw [setf27 (p := ⟨gm, 4, none⟩) _ (ne27 HG2.out HM.out (by decide))]; exact HG2.out), Below.setCell HB.out (p := ⟨gm, 4, none⟩) HGM.out _⟩
       ·have kf : (f1 == 0) = false := by simpa using hf
        clear hf
        go_wp2_with fail
        go_meet
        case rel => exact ⟨rfl, kA, kc, mh, hs, HM.out, HD.out.sd.2.2.2.2.1, HD.out.sd.2.2.2.2.2, .inl rfl, HD.out, HG.out, HA.out, HG1.out, HG2.out, HB.out⟩
      case rest =>
       clear HSL HTB HR
       clear HD HG HA HG1 HG2 HB HM
       obtain ⟨rfl, kA2, kc2, mh2, hs2, hm, hsl, htb, hor, hd, hg, ha, hg1, hg2, hB⟩ := hcut
       have HD := Lib.hid hd
       have HG := Lib.hid hg
       have HA := Lib.hid ha
       have HG1 := Lib.hid hg1
       have HG2 := Lib.hid hg2
       have HB := Lib.hid hB
       have HM := Lib.hid hm
       have HSL := Lib.hid hsl
       have HTB := Lib.hid htb
       have HOR := Lib.hid hor
       clear hd hg ha hg1 hg2 hB hm hsl htb hor
       have HPAY := Lib.hid (fun V A2 c2 (h1 : Below wc.heap.size wc V) (h2 : Sl V A2 (rc Fw.cells [⟨ua, uc, a3⟩])) => rppay_any gA A2 gc c2 ml [⟨ua, uc, a3⟩] V (by have := HSUB.out.2.1; omega) (by simp) (fun x hx => by
        rcases List.mem_append.1 hx with hx | hx
        ·exact HQ4.out x (HSUB.out.1 x hx)
        ·rw [List.mem_singleton.1 hx]; exact ⟨HUV.out.1, HUV.out.2, HIN.out.2.2⟩) (HD.out.sd.2.2.2.1.below h1) h2)
       obtain ⟨f2, mlN, hR⟩ : ∃ f2 mlN, payR ml [⟨ua, uc, a3⟩] = (f2, mlN) := ⟨_, _, rfl⟩
       simp only [hR] at HPAY
       have HR := Lib.hid hR
       clear hR
       have t3 := (bx27 HG.out 3).1
       have x0 := (bx27 HG1.out 0).1
       have x1 := (bx27 HG1.out 1).1
       go_upto_if 84 with fail
       clear t3 x0 x1
       have hbA := since_alloc (Below.refl wc.heap.size wc) (.cells #[.int .i64 ua, .int .i64 uc, .int .i64 a3] 50)
       refine (HPAY.out (wc.alloc (.cells #[.int .i64 ua, .int .i64 uc, .int .i64 a3] 50)) (some ⟨wc.heap.size, 0, none⟩) 1 hbA (Sl.new_ wc [.int .i64 ua, .int .i64 uc, .int .i64 a3] 50)).mono ?_
       rintro e' y8 ⟨⟨gA2, gc2, rfl, sl8⟩, hb⟩
       clear HPAY
       have HD := Lib.hid (HD.out.below hbA)
       have HB := Lib.hid (since_step HB.out hbA)
       have HG := Lib.hid ((hbA.block _ (lt27 HG.out)).trans HG.out)
       have HA := Lib.hid ((hbA.block _ (lt27 HA.out)).trans HA.out)
       have HG2 := Lib.hid ((hbA.block _ (lt27 HG2.out)).trans HG2.out)
       have HG1 := Lib.hid ((hbA.block _ (lt27 HG1.out)).trans HG1.out)
       have HM := Lib.hid ((hbA.block _ (lt27 HM.out)).trans HM.out)
       have HSL := Lib.hid (HSL.out.below hbA)
       have HTB := Lib.hid (HTB.out.below hbA)
       clear hbA
       have HD := Lib.hid (HD.out.below hb)
       have HB := Lib.hid (since_step HB.out hb)
       have HG := Lib.hid ((hb.block _ (lt27 HG.out)).trans HG.out)
       have HA := Lib.hid ((hb.block _ (lt27 HA.out)).trans HA.out)
       have HG2 := Lib.hid ((hb.block _ (lt27 HG2.out)).trans HG2.out)
       have HG1 := Lib.hid ((hb.block _ (lt27 HG1.out)).trans HG1.out)
       have HM := Lib.hid ((hb.block _ (lt27 HM.out)).trans HM.out)
       have HSL := Lib.hid (HSL.out.below hb)
       have HTB := Lib.hid (HTB.out.below hb)
       have HSP := Lib.hid sl8
       clear hb sl8
       go_upto_if 84 with fail
       go_cut [15] (fun s15 wx => s15 = .pointer (some ⟨gm, 0, none⟩) ∧ ∃ (gA2 : Option Addr) (gc2 : Nat) (ml2 : List Fw), wx.heap[gm]? = some (.cells #[.slice zA asl.length zac, .slice jA mi.length jc, .slice qA mp.length qc, .slice gA2 ml2.length gc2, .slice kA2 mh2.length kc2] 34 (0, 0)) ∧ Sl wx gA2 (rc Fw.cells ml2) ∧ (ml2 = ml ∨ payR ml [⟨ua, uc, a3⟩] = (0, ml2)) ∧ Sl wx kA2 (rc Hd.cells mh2) ∧ HdTab wx mh2 hs2 ∧ SDL w w.heap.size wx zA zac asl jA jc mi is qA qc mp cs gA ml kA kc mh hs ∧ wx.heap[gy]? = some (.cells #[.slice zA asl.length zac, .slice jA mi.length jc, .slice qA mp.length qc, .slice gA ml.length gc, .slice kA mh.length kc] 34 (0, 0)) ∧ wx.heap[w.heap.size + 1]? = some (.cells #[.int .i64 cid, .int .i64 cmem, .int .i64 ckind, .slice GA L.length cap] 31 (0, 0)) ∧ wx.heap[g1]? = some (.cells #[.int .i64 ua, .int .i64 uc] 41 (0, 0)) ∧ wx.heap[g2]? = some (.cells #[.int .i64 wa, .int .i64 wl] 41 (0, 0)) ∧ Below w.heap.size w wx)
       case first =>
        by_cases hf : f2 = 0
        ·subst hf
         have x3 := (bx27 HM.out 3).1
         have f3 := (bx27 HM.out 3).2.1
         have gs := (bx27 HM.out 3).2.2
         go_wp2_with fail
         go_meet
         case rel =>
          exact ⟨rfl, gA2, gc2, mlN, setb27 (i := 3) (.slice gA2 mlN.length gc2) HM.out, HSP.out.offS27 HM.out (all5S27 _ _ _ _ _ _ _ _ _ _ _ _ _ _ _) (headI_Fw _) 3 _, .inr HR.out, HSL.out.offS27 HM.out (all5S27 _ _ _ _ _ _ _ _ _ _ _ _ _ _ _) (headI_Hd _) 3 _, HTB.out.offS27 HM.out (all5S27 _ _ _ _ _ _ _ _ _ _ _ _ _ _ _) 3 _, HD.out.sett (p := ⟨gm, 3, none⟩) HM.out (by decide) (by decide) (by decide) (by decide) HGM.out _, (by rw [setf27 (p := ⟨gm, 3, none⟩) _ HNM.out]; exact HG.out), (by rw [setf27 (p := ⟨gm, 3, none⟩) _ (ne27 HA.out HM.out (by decide))]; exact HA.out), (by rw [setf27 (p := ⟨gm, 3, none⟩) _ (ne27 HG1.out HM.out (by decide))]; exact HG1.out), (by rw [setf27 (p := ⟨gm, 3, none⟩) _ (ne27 HG2.out HM.out (by decide))]; exact HG2.out), Below.setCell HB.out (p := ⟨gm, 3, none⟩) HGM.out _⟩
        ·have kf : (f2 == 0) = false := by simpa using hf
         clear hf
         go_wp2_with fail
         go_meet
         case rel => exact ⟨rfl, gA, gc, ml, HM.out, HD.out.sd.2.2.2.1, .inl rfl, HSL.out, HTB.out, HD.out, HG.out, HA.out, HG1.out, HG2.out, HB.out⟩
       case rest =>
        clear HSL HTB HR HSP
        clear HD HG HA HG1 HG2 HB HM
        obtain ⟨rfl, gA2, gc2, ml2, hm, hsp, hor2, hsl, htb, hd, hg, ha, hg1, hg2, hB⟩ := hcut
        have HD := Lib.hid hd
        have HG := Lib.hid hg
        have HA := Lib.hid ha
        have HG1 := Lib.hid hg1
        have HG2 := Lib.hid hg2
        have HB := Lib.hid hB
        have HM := Lib.hid hm
        have HSL := Lib.hid hsl
        have HTB := Lib.hid htb
        have HSP := Lib.hid hsp
        have HOR2 := Lib.hid hor2
        clear hd hg ha hg1 hg2 hB hm hsl htb hsp hor2
        have HPB : Hid (ml2.length ≤ 900000 ∧ ∀ x ∈ ml2, In64 x.amt) := Lib.hid (by
         rcases HOR2.out with rfl | h9
         ·exact HSB.out.2.2.2.1
         ·have h8 := pay_bd27 h9
          have h7 := HSUB.out.2.1
          simp only [List.length_singleton] at h8
          exact ⟨by omega, h8.2⟩)
        have HHB : Hid (mh2.length ≤ 900000 ∧ (∀ g ∈ hs2, g.L.length ≤ 100000) ∧ ∀ g ∈ hs2, ∀ y ∈ g.L, In64 y.qty) := Lib.hid (by
         have h7 := HSUB.out.2.2
         have h6 := HD.out.th.1
         have h5 := HTB.out.1
         rcases HOR.out with rfl | h9
         ·exact ⟨by omega, HSB.out.2.2.2.2.2⟩
         ·have h8 := Hq.put_bd27 h9 HSB.out.2.2.2.2.2.2 HSB.out.2.2.2.2.2.1
          have h4 := h8.1
          exact ⟨by omega, h8.2⟩)
        have HEX := Lib.hid (excess_any zA zac asl jA jc mi is qA qc mp cs gA2 gc2 ml2 kA2 kc2 mh2 hs2 cid cmem ckind GA cap L ⟨wa, wl⟩ wc ⟨HSB.out.1, HSB.out.2.1, HSB.out.2.2.1, HPB.out, HHB.out⟩ (by have := HLL.out.1; omega) ⟨HD.out.sd.1, HD.out.sd.2.1, HD.out.sd.2.2.1, HSP.out, HSL.out, HTB.out⟩ (HLL.out.2.2 _ HB.out))
        unfold Un.val at HEX
        obtain ⟨n2, e2, he⟩ : ∃ n2 e2, exR asl is cs ml2 hs2 cid ckind L ⟨wa, wl⟩ = (n2, e2) := ⟨_, _, rfl⟩
        simp only [he] at HEX
        have HE2 := Lib.hid he
        clear he
        have HGO : Hid (e2 = 0 → n ≤ n2) := Lib.hid (fun h0 => by
         have h9 := ex_more27 (asl := asl) (is := is) (cs := cs) (fl := ml) (fl' := ml2) (hs := hs) (hs' := hs2) (id := cid) (kind := ckind) (L := L) (u := ⟨wa, wl⟩) HSB.out.1.2.1 HNEG.out HOR2.out HOR.out (by rw [HE.out]) (by rw [HE2.out]; exact h0)
         rw [HE.out, HE2.out] at h9
         exact h9)
        have s0 := (bx27 HM.out 0).1
        have s1 := (bx27 HM.out 1).1
        have s2 := (bx27 HM.out 2).1
        have s3 := (bx27 HM.out 3).1
        have s4 := (bx27 HM.out 4).1
        have a0 := (bx27 HA.out 0).1
        have a1 := (bx27 HA.out 1).1
        have a2 := (bx27 HA.out 2).1
        have a3q := (bx27 HA.out 3).1
        have x0 := (bx27 HG2.out 0).1
        have x1 := (bx27 HG2.out 1).1
        go_wp2_with fail
        refine HEX.out.mono ?_
        rintro e' y9 ⟨rfl, hb⟩
        clear s0 s1 s2 s3 s4 a0 a1 a2 a3q x0 x1 HEX
        have HB := Lib.hid (since_step HB.out hb)
        clear hb
        by_cases h0 : e2 = 0
        ·have dge : decide (n ≤ n2) = true := decide_eq_true (HGO.out h0)
         subst h0
         go_wp2_with fail
         refine (HLV.out _).mono ?_
         rintro e v9 ⟨rfl, hb9⟩
         have hB9 := since_step HB.out hb9
         go_wp2_with fail
         go_ret
         exact ⟨rfl, hB9⟩
        ·have be : (e2 != 0) = true := by simpa using h0
         clear h0
         go_wp2_with fail
         refine (HLV.out _).mono ?_
         rintro e v9 ⟨rfl, hb9⟩
         have hB9 := since_step HB.out hb9
         go_wp2_with fail
         go_ret
         exact ⟨rfl, hB9⟩
     ·have hn : n = 0 := by
       have h9 := exR_ne27 (asl := asl) (is := is) (cs := cs) (fl := ml) (hs := hs) (id := cid) (kind := ckind) (L := L) (u := ⟨wa, wl⟩) (by rw [HE.out]; exact h0)
       rw [HE.out] at h9
       exact h9
      subst hn
      have be : (e != 0) = true := by simpa using h0
      clear h0
      go_wp2_with fail
      refine (HLV.out _).mono ?_
      rintro e v9 ⟨rfl, hb9⟩
      have hB9 := since_step HB.out hb9
      go_wp2_with fail
      go_ret
      exact ⟨rfl, hB9⟩
end
end Go.Proofs.YtmjndpkfhdoljaaGreat
