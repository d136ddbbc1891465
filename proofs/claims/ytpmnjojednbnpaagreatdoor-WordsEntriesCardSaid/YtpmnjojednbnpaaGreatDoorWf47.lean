import Derived.Test.YtpmnjojednbnpaaGreatDoorWf46
set_option maxHeartbeats 16000000
set_option maxRecDepth 100000
set_option linter.unusedVariables false
set_option linter.unusedSimpArgs false
namespace Go.Proofs.YtpmnjojednbnpaaGreatDoor
open Go.ChangeShapes Go.WideShapes Go.ChangeAt Go.RowKit
section
theorem rsameE (z n : Int) (B1 B2 K1 K2 : Option Addr) (b1 b2 k1 k2 : Nat) (bs : List Nat) (ks : List Int) (w : World) (hbl : bs.length ≤ 10000) (hkl : ks.length ≤ 1000) (s1 : Sl w B1 (by8 bs)) (s2 : Sl w B2 (by8 bs)) (t1 : Sl w K1 (ints .i64 ks)) (t2 : Sl w K2 (ints .i64 ks)) :
  Calls Tryz.prog 24 #[.agg #[.int .i64 z, .slice B1 bs.length b1, .int .i64 n, .slice K1 ks.length k1], .agg #[.int .i64 z, .slice B2 bs.length b2, .int .i64 n, .slice K2 ks.length k2]] w fun e w' => e = .returned (.bool true) ∧ Below w.heap.size w w' := by
 have hz : (z != z) = false := by simp
 have hn : (n != n) = false := by simp
 have hk : ((ks.length : Int) != (ks.length : Int)) = false := by simp
 have hb1 := since_alloc (Below.refl _ w) (.cells #[.int .i64 z, .slice B1 bs.length b1, .int .i64 n, .slice K1 ks.length k1] 57);have hx1 := heap_alloc_new w (.cells #[.int .i64 z, .slice B1 bs.length b1, .int .i64 n, .slice K1 ks.length k1] 57);obtain ⟨q, hq⟩ : ∃ q, w.heap.size = q := ⟨_, rfl⟩;have hz1 := World.size_alloc w (.cells #[.int .i64 z, .slice B1 bs.length b1, .int .i64 n, .slice K1 ks.length k1] 57);obtain ⟨W1, hW1⟩ : ∃ W1, w.alloc (.cells #[.int .i64 z, .slice B1 bs.length b1, .int .i64 n, .slice K1 ks.length k1] 57) = W1 := ⟨_, rfl⟩;rw [hW1, hq] at hx1 hz1;rw [hW1] at hb1;have hb2 := since_alloc (Below.refl _ W1) (.cells #[.int .i64 z, .slice B2 bs.length b2, .int .i64 n, .slice K2 ks.length k2] 57);have hx2 := heap_alloc_new W1 (.cells #[.int .i64 z, .slice B2 bs.length b2, .int .i64 n, .slice K2 ks.length k2] 57);obtain ⟨W2, hW2⟩ : ∃ W2, W1.alloc (.cells #[.int .i64 z, .slice B2 bs.length b2, .int .i64 n, .slice K2 ks.length k2] 57) = W2 := ⟨_, rfl⟩;rw [hW2] at hb2 hx2;rw [hz1] at hx2;have hx1 := (hb2.block q (by omega)).trans hx1;have hB := since_step hb1 hb2;have hl2 := (Array.getElem?_eq_some_iff.1 hx2).1
 have HK : Hid (∀ V, Below W2.heap.size W2 V → (V.heap[q]? = some (.cells #[.int .i64 z, .slice B1 bs.length b1, .int .i64 n, .slice K1 ks.length k1] 57 (0, 0)) ∧ V.heap[q + 1]? = some (.cells #[.int .i64 z, .slice B2 bs.length b2, .int .i64 n, .slice K2 ks.length k2] 57 (0, 0))) ∧ Below q w V ∧ Sl V K1 (ints .i64 ks) ∧ Sl V K2 (ints .i64 ks)) := hJz fun V hV => by
  have hBV : Below w.heap.size w V := since_step hB hV;exact ⟨⟨(hV.block q (by omega)).trans hx1, (hV.block (q + 1) hl2).trans hx2⟩, by rw [← hq]; exact hBV, t1.below hBV, t2.below hBV⟩
 have HSM := hJz (same_any B1 B2 b1 b2 bs bs W2 (by unfold maxLen; omega) (by unfold maxLen; omega) (s1.below hB) (s2.below hB));have HW1 := hJz hW1;have HW2 := hJz hW2;have HQ := hJz hq;have HZ1 := hJz hz1;have hd : decide (bs = bs) = true := decide_eq_true rfl;have HD := hJz hd;rw [hq];clear hb1 hx1 hq hW1 hb2 hx2 hW2 hB hl2 s1 s2 t1 t2 hz1 hd
 have HF : Hid (∀ V, Below W2.heap.size W2 V → (V.cell? ⟨q, 0, none⟩ = some (.int .i64 z) ∧ V.cell? ⟨q, 1, none⟩ = some (.slice B1 bs.length b1) ∧ V.cell? ⟨q, 2, none⟩ = some (.int .i64 n) ∧ V.cell? ⟨q, 3, none⟩ = some (.slice K1 ks.length k1) ∧ q < V.heap.size) ∧ V.cell? ⟨q + 1, 0, none⟩ = some (.int .i64 z) ∧ V.cell? ⟨q + 1, 1, none⟩ = some (.slice B2 bs.length b2) ∧ V.cell? ⟨q + 1, 2, none⟩ = some (.int .i64 n) ∧ V.cell? ⟨q + 1, 3, none⟩ = some (.slice K2 ks.length k2) ∧ q + 1 < V.heap.size) := hJz fun V hV => by
  obtain ⟨⟨h1, h2⟩, _⟩ := HK.out V hV;exact ⟨⟨(cell_of_row V q 0 _ _ (0, 0) h1).trans rfl, (cell_of_row V q 1 _ _ (0, 0) h1).trans rfl, (cell_of_row V q 2 _ _ (0, 0) h1).trans rfl, (cell_of_row V q 3 _ _ (0, 0) h1).trans rfl, (Array.getElem?_eq_some_iff.1 h1).1⟩, (cell_of_row V (q + 1) 0 _ _ (0, 0) h2).trans rfl, (cell_of_row V (q + 1) 1 _ _ (0, 0) h2).trans rfl, (cell_of_row V (q + 1) 2 _ _ (0, 0) h2).trans rfl, (cell_of_row V (q + 1) 3 _ _ (0, 0) h2).trans rfl, (Array.getElem?_eq_some_iff.1 h2).1⟩
 go_enter Tryz.func24, Tryz.ntmps24;go_upto_region 1 with fail;rw [HW1.out, HW2.out, HQ.out];obtain ⟨⟨g0, g1, g2, g3, gl⟩, k0, k1', k2', k3, kl⟩ := HF.out W2 (Below.refl _ _);go_wp2_with (first | (go_at_call 53; refine HSM.out.mono ?_; rintro e v1 ⟨rfl, nd, rfl⟩; rw [HD.out]) | fail);clear g0 g1 g2 g3 gl k0 k1' k2' k3 kl;go_loopw [5] (fun iv wr => ∃ k : Nat, k ≤ ks.length ∧ iv = .int .i64 (k : Int) ∧ Below W2.heap.size W2 wr) (fun iv _ => ks.length - (intOf iv).toNat)
 case atStart => exact ⟨0, by omega, rfl, below_drewN (Below.refl _ _) nd⟩
 case round =>
  obtain ⟨k, hk1, rfl, hBw⟩ := hrel;obtain ⟨⟨g0, g1, g2, g3, gl⟩, k0, k1', k2', k3, kl⟩ := HF.out wr hBw;obtain ⟨_, hBq, hs1, hs2⟩ := HK.out wr hBw
  by_cases hkl2 : k < ks.length
  ·have hki : (k : Int) < (ks.length : Int) := by omega
   have hk0 : (0 : Int) ≤ (k : Int) := by omega
   obtain ⟨c1, o1, e1, h1⟩ := hs1.int hkl2;obtain ⟨c2, o2, e2, h2⟩ := hs2.int hkl2;obtain ⟨m, hm⟩ : ∃ m, ks[k] = m := ⟨_, rfl⟩;rw [hm] at h1 h2;rw [e1] at g3;rw [e2] at k3;have hnn : (m != m) = false := by simp
   have HBw := hJz hBw;clear hm hBw hBq hs1 hs2;go_upto_region 6 with fail;go_quiet (fail);have hB2 := below_drewN HBw.out nq;clear g0 g1 g2 g3 gl k0 k1' k2' k3 kl h1 h2;go_wp2_with fail;go_roundw
   case rel => exact ⟨k + 1, by omega, by go_num, hB2⟩
   case measure => simp [intOf]; omega
  ·obtain rfl : k = ks.length := by omega
   have HBq := hJz hBq;clear hBq hs1 hs2 hBw;go_wp2_with fail;go_ret;exact ⟨rfl, HBq.out⟩
theorem small40 (z n : Int) (B K : Option Addr) (lb kb lk kk : Nat) (w : World) (h1 : lb ≤ kb) (h2 : kb ≤ maxLen) (h3 : lk ≤ kk) (h4 : kk ≤ maxLen) (hB : 400 < lb → B ≠ none) (hK : 30 < lk → K ≠ none) :
  Calls Tryz.prog 19 #[.agg #[.int .i64 z, .slice B lb kb, .int .i64 n, .slice K lk kk]] w fun e w' => e = .returned (.agg #[.int .i64 z, .slice B (min lb 400) kb, .int .i64 n, .slice K (min lk 30) kk]) ∧ Below w.heap.size w w' := by
 unfold maxLen at h2 h4
 by_cases c1 : 400 < lb
 ·have eB : min lb 400 = 400 := by omega
  have iB : (400 : Int) < (lb : Int) := by omega
  have jB : (400 : Int) ≤ (kb : Int) := by omega
  obtain ⟨aB, haB⟩ : ∃ a, B = some a := by
   cases B with
   | none => exact absurd rfl (hB c1)
   | some a => exact ⟨a, rfl⟩
  subst haB;rw [eB];clear eB hB
  by_cases c2 : 30 < lk
  ·have eK : min lk 30 = 30 := by omega
   have iK : (30 : Int) < (lk : Int) := by omega
   have jK : (30 : Int) ≤ (kk : Int) := by omega
   obtain ⟨aK, haK⟩ : ∃ a, K = some a := by
    cases K with
    | none => exact absurd rfl (hK c2)
    | some a => exact ⟨a, rfl⟩
   subst haK;rw [eK];clear eK hK;clear c1 c2;go_enter Tryz.func19, Tryz.ntmps19;go_wp2_with fail;refine bodyPost_ret (v := .agg #[.int .i64 z, .slice (some aB) 400 kb, .int .i64 n, .slice (some aK) 30 kk]) ?_ rfl ⟨rfl, since_alloc (since_alloc (Below.refl _ _) _) _⟩;simp [results, Tryz.results19, go_sem]
  ·have eK : min lk 30 = lk := by omega
   have iK : ¬ (30 : Int) < (lk : Int) := by omega
   rw [eK];clear eK hK;clear c1 c2;go_enter Tryz.func19, Tryz.ntmps19;go_wp2_with fail;refine bodyPost_ret (v := .agg #[.int .i64 z, .slice (some aB) 400 kb, .int .i64 n, .slice K lk kk]) ?_ rfl ⟨rfl, since_alloc (since_alloc (Below.refl _ _) _) _⟩;simp [results, Tryz.results19, go_sem]
 ·have eB : min lb 400 = lb := by omega
  have iB : ¬ (400 : Int) < (lb : Int) := by omega
  rw [eB];clear eB hB
  by_cases c2 : 30 < lk
  ·have eK : min lk 30 = 30 := by omega
   have iK : (30 : Int) < (lk : Int) := by omega
   have jK : (30 : Int) ≤ (kk : Int) := by omega
   obtain ⟨aK, haK⟩ : ∃ a, K = some a := by
    cases K with
    | none => exact absurd rfl (hK c2)
    | some a => exact ⟨a, rfl⟩
   subst haK;rw [eK];clear eK hK;clear c1 c2;go_enter Tryz.func19, Tryz.ntmps19;go_wp2_with fail;refine bodyPost_ret (v := .agg #[.int .i64 z, .slice B lb kb, .int .i64 n, .slice (some aK) 30 kk]) ?_ rfl ⟨rfl, since_alloc (since_alloc (Below.refl _ _) _) _⟩;simp [results, Tryz.results19, go_sem]
  ·have eK : min lk 30 = lk := by omega
   have iK : ¬ (30 : Int) < (lk : Int) := by omega
   rw [eK];clear eK hK;clear c1 c2;go_enter Tryz.func19, Tryz.ntmps19;go_wp2_with fail;refine bodyPost_ret (v := .agg #[.int .i64 z, .slice B lb kb, .int .i64 n, .slice K lk kk]) ?_ rfl ⟨rfl, since_alloc (since_alloc (Below.refl _ _) _) _⟩;simp [results, Tryz.results19, go_sem]
theorem rd_ent {w : World} {a : Array Value} (h : Go.Proofs.YtpmnjojednbnpaaGreatDoor.Rd w (.cat (.int .i64) (.cat (.sl (.int .u8)) (.cat (.int .i64) (.cat (.sl (.int .i64)) .nil)))) a.toList) : ∃ (z n : Int) (B K : Option Addr) (kb kk : Nat) (bs : List Nat) (ks : List Int), a = #[.int .i64 z, .slice B bs.length kb, .int .i64 n, .slice K ks.length kk] ∧ In64p z ∧ In64p n ∧ (bs.length ≤ kb ∧ kb ≤ maxLen ∧ Sl w B (by8 bs) ∧ Oct bs) ∧ ks.length ≤ kk ∧ kk ≤ maxLen ∧ Sl w K (ints .i64 ks) ∧ ∀ x ∈ ks, In64p x := by
 obtain ⟨r, hr⟩ : ∃ r, a.toList = r := ⟨_, rfl⟩;rw [hr] at h;have ha : a = r.toArray := by rw [← hr]
 obtain ⟨p, q, rfl, h1, p2, q2, rfl, h2, p3, q3, rfl, h3, p4, q4, rfl, h4, rfl⟩ := h;obtain ⟨z, rfl, i1⟩ := rd_int h1;obtain ⟨n, rfl, i3⟩ := rd_int h3;obtain ⟨B, nb, kb, rows2, rfl, _⟩ := _root_.id h2;obtain ⟨K, nk, kk, rows4, rfl, _⟩ := _root_.id h4;obtain ⟨bs, e2, g1, g2, g3, g4⟩ := rd_bytes h2;obtain ⟨ks, e4, f1, f2, f3, f4⟩ := rd_rowsP (f := fun n : Int => [Value.int .i64 n]) (fun r => rd_int) h4;subst e2; subst e4;rw [rc_int] at f3;subst ha;exact ⟨z, n, B, K, kb, kk, bs, ks, rfl, i1, i3, ⟨g1, g2, g3, g4⟩, f1, f2, f3, f4⟩
theorem peV_in (l : List UInt8) (hl : l.length ≤ 900) : (peV l).ok := by
 unfold peV
 split
 ·exact guess_ok l hl
 ·exact ⟨(in64k (k := 0) (by decide) (by decide)), (in64k (k := 0) (by decide) (by decide)), by simp, oct_nil, by simp, fun x hx => by cases hx⟩
theorem peV_line {l : List UInt8} (h : okPE l = true) : (peV l).line = some l := by
 rw [peV_ok h];unfold okPE at h;exact of_decide_eq_true h
theorem walk_WordsEntries (a0 : Array Value) (a1 : ByteArray) (w : World) (hE : EvB w.heap.size w) (w0 : Go.Proofs.YtpmnjojednbnpaaGreatDoor.Rd w (.cat (.int .i64) (.cat (.sl (.int .u8)) (.cat (.int .i64) (.cat (.sl (.int .i64)) .nil)))) a0.toList) (w1 : a1.size ≤ maxLen) :
  Calls Tryz.prog 5 #[.agg a0, .string a1] w fun e w' => e = .returned (.bool true) ∧ Below w.heap.size w w' := by
 obtain ⟨z, n, B, K, kb, kk, bs, ks, rfl, iz, in_, ⟨hb1, hb2, hb3, hb4⟩, hk1, hk2, hk3, hk4⟩ := rd_ent w0;obtain ⟨s0, hs0⟩ : ∃ s0 : List UInt8, a1 = S8 s0 := ⟨a1.data.toList, eq_S8 rfl⟩;subst hs0;obtain ⟨LB, hLB⟩ : ∃ LB, bs.take 400 = LB := ⟨_, rfl⟩;obtain ⟨LK, hLK⟩ : ∃ LK, ks.take 30 = LK := ⟨_, rfl⟩;obtain ⟨t, ht⟩ : ∃ t, s0.take 300 = t := ⟨_, rfl⟩;have htl : t.length ≤ 900 := by rw [← ht, List.length_take]; omega
 have HT := hJz (fun V => short40 s0 V);rw [ht] at HT;have hmb : min bs.length 400 = LB.length := by rw [← hLB, List.length_take]; omega
 have hmk : min ks.length 30 = LK.length := by rw [← hLK, List.length_take]; omega
 have hsb : Sl w B (by8 LB) := by
  have := hb3.take 400;rw [← by8_take, hLB] at this;exact this
 have hsk : Sl w K (ints .i64 LK) := by
  have := hk3.take 30;rw [← hLK];simpa [ints, List.map_take] using this
 have hX : En.ok ⟨z, LB, n, LK⟩ := ⟨iz, in_, by simp only; omega, by rw [← hLB]; exact hb4.take 400, by simp only; omega, fun y hy => hk4 y (by rw [← hLK] at hy; exact List.mem_of_mem_take hy)⟩;have hx0 := heap_alloc_new w (.cells #[.int .i64 z, .slice B bs.length kb, .int .i64 n, .slice K ks.length kk] 57);have hB0 := since_alloc (Below.refl _ w) (.cells #[.int .i64 z, .slice B bs.length kb, .int .i64 n, .slice K ks.length kk] 57);obtain ⟨W1, hW1⟩ : ∃ W1, w.alloc (.cells #[.int .i64 z, .slice B bs.length kb, .int .i64 n, .slice K ks.length kk] 57) = W1 := ⟨_, rfl⟩
 have hsm := small40 z n B K bs.length kb ks.length kk W1 hb1 hb2 hk1 hk2 (fun h => by
  obtain ⟨b, o, e, _⟩ := hb3.byte (j := 0) (by omega)
  rw [e]; exact fun h => by cases h) (fun h => by
  obtain ⟨b, o, e, _⟩ := hk3.int (j := 0) (by omega)
  rw [e]; exact fun h => by cases h)
 rw [hmb, hmk] at hsm;have HSH := hJz hsm;obtain ⟨b, hb⟩ : ∃ b, w.heap.size = b := ⟨_, rfl⟩
 have HSL : Hid (∀ V, Below b w V → Sl V B (by8 LB) ∧ Sl V K (ints .i64 LK)) := hJz fun V hV => by
  rw [← hb] at hV;exact ⟨hsb.below hV, hsk.below hV⟩
 have HEV : Hid (∀ V, Below b w V → EvB V.heap.size V) := hJz fun V hV => by
  have hs := hV.size;rw [← hb] at hV;exact (hE.on hV).up hs
 rw [hW1, hb] at hx0;rw [hW1] at hB0;rw [hb] at hB0 ⊢;have HBW := hJz hb;have HW1 := hJz hW1;have HX0 := hJz hx0;have HB0 := hJz hB0;have hl0 := (Array.getElem?_eq_some_iff.1 hx0).1;have HL0 := hJz hl0
 -- both lines of the entry
 have HEW := hJz (fun V (hV : Below b w V) => wentry z n B K kb kk LB LK V hX.iz hX.in_ hX.bl hX.oc (HSL.out V hV).1 hX.kl hX.ik (HSL.out V hV).2 (HEV.out V hV));have HER := hJz (fun V (hV : Below b w V) => rentry z n B K kb kk LB LK V hX.iz hX.in_ hX.bl (by omega) hb2 hX.oc (HSL.out V hV).1 hX.kl hX.ik (HSL.out V hV).2)
 have HLB : Hid (∀ l, entE z LB n LK = some l → l.length ≤ 900 ∧ okPE l = true ∧ peV l = ⟨z, LB, n, LK⟩) := hJz fun l h => by
  obtain ⟨p1, p2⟩ := line_back hX (l := l) h;exact ⟨line_short hX (by simp only; omega) (l := l) h, p1, by rw [peV_ok p1, p2]⟩
 obtain ⟨XO, hXO⟩ : ∃ XO, entE z LB n LK = XO := ⟨_, rfl⟩;rw [hXO] at HEW HER HLB;obtain ⟨LN, hLN⟩ : ∃ LN, XO.getD [] = LN := ⟨_, rfl⟩;obtain ⟨ex, hex⟩ : ∃ ex : Int, (if XO.isSome = true then (0 : Int) else 3) = ex := ⟨_, rfl⟩;have hea : entA XO = .returned (.tuple #[.string (S8 LN), .int .i64 ex]) := by unfold entA; rw [hLN, hex]
 rw [hea] at HEW HER;have HLN := hJz hLN;have HEX := hJz hex
 -- the entry of the line
 have HPW := hJz (fun V (hV : Below b w V) => wparseE t V htl (HEV.out V hV));have HPR := hJz (fun V => rparseEnt t V htl);unfold PERes at HPW HPR;have hG := peV_in t htl;have HGL : Hid (okPE t = true → (peV t).line = some t) := hJz fun h => peV_line h;obtain ⟨G, hGE⟩ : ∃ G, peV t = G := ⟨_, rfl⟩;obtain ⟨pk, hpk⟩ : ∃ pk, okPE t = pk := ⟨_, rfl⟩;rw [hGE, hpk] at HPW HPR HGL;rw [hGE] at hG;obtain ⟨gz, gbs, gn, gks⟩ := G;simp only at HPW HPR;have HGO := hJz (fun B5 k5 K5 j5 V (s1 : Sl V B5 (by8 gbs)) (s2 : Sl V K5 (ints .i64 gks)) (hV : Below b w V) => wentry gz gn B5 K5 k5 j5 gbs gks V hG.iz hG.in_ hG.bl hG.oc s1 hG.kl hG.ik s2 (HEV.out V hV));have HGE : Hid (pk = true → entE gz gbs gn gks = some t) := hJz fun h => HGL.out h;obtain ⟨YO, hYO⟩ : ∃ YO, entE gz gbs gn gks = YO := ⟨_, rfl⟩;rw [hYO] at HGO HGE;obtain ⟨LY, hLY⟩ : ∃ LY, YO.getD [] = LY := ⟨_, rfl⟩;obtain ⟨ey, hey⟩ : ∃ ey : Int, (if YO.isSome = true then (0 : Int) else 3) = ey := ⟨_, rfl⟩;have heb : entA YO = .returned (.tuple #[.string (S8 LY), .int .i64 ey]) := by unfold entA; rw [hLY, hey]
 rw [heb] at HGO
 have HLY : Hid (pk = true → LY = t ∧ ey = 0) := hJz fun h => by
  have h1 := HGE.out h;rw [h1] at hLY hey;exact ⟨hLY.symm, hey.symm⟩
 obtain ⟨ep, hep⟩ : ∃ ep : Int, prE pk = ep := ⟨_, rfl⟩;rw [hep] at HPW HPR;have HEP := hJz hep;have HSG := hJz (fun B1 B2 K1 K2 c1 c2 d1 d2 V (s1 : Sl V B1 (by8 gbs)) (s2 : Sl V B2 (by8 gbs)) (t1 : Sl V K1 (ints .i64 gks)) (t2 : Sl V K2 (ints .i64 gks)) => rsameE gz gn B1 B2 K1 K2 c1 c2 d1 d2 gbs gks V hG.bl hG.kl s1 s2 t1 t2);have HSX := hJz (fun B1 B2 K1 K2 c1 c2 d1 d2 V (s1 : Sl V B1 (by8 LB)) (s2 : Sl V B2 (by8 LB)) (t1 : Sl V K1 (ints .i64 LK)) (t2 : Sl V K2 (ints .i64 LK)) => rsameE z n B1 B2 K1 K2 c1 c2 d1 d2 LB LK V hX.bl hX.kl s1 s2 t1 t2);have HPL := hJz (fun l (hl : l.length ≤ 900) V (hV : Below b w V) => wparseE l V hl (HEV.out V hV));unfold PERes at HPL;have HLV := hJz (fun V (hV : Below b w V) => lives40_any V (HEV.out V hV));have k0 : W1.cell? ⟨b, 0, none⟩ = some (.int .i64 z) := (cell_of_row W1 b 0 _ _ (0, 0) hx0).trans rfl;have k1 : W1.cell? ⟨b, 1, none⟩ = some (.slice B bs.length kb) := (cell_of_row W1 b 1 _ _ (0, 0) hx0).trans rfl;have k2 : W1.cell? ⟨b, 2, none⟩ = some (.int .i64 n) := (cell_of_row W1 b 2 _ _ (0, 0) hx0).trans rfl;have k3 : W1.cell? ⟨b, 3, none⟩ = some (.slice K ks.length kk) := (cell_of_row W1 b 3 _ _ (0, 0) hx0).trans rfl;have kl := hl0;clear w0 w1 iz in_ hb1 hb2 hb3 hb4 hk1 hk2 hk3 hk4 hLB hLK ht htl hmb hmk hsb hsk hX hx0 hB0 hW1 hsm hb hE hl0 hXO hG hGE hpk hYO HGL hLN hex hea hLY hey heb hep HGE;go_enter Tryz.func5, Tryz.ntmps5;go_upto_region 1 with fail;rw [HW1.out, HBW.out];go_wp2_with fail;refine HSH.out.mono ?_;rintro e v1 ⟨rfl, hb1⟩;have hx1 := (hb1.block b HL0.out).trans HX0.out;have hB1 : Below b w v1 := HB0.out.trans (hb1.mono (Nat.le_of_lt HL0.out));clear k0 k1 k2 k3 kl hb1;have k0 : v1.cell? ⟨b, 0, none⟩ = some (.int .i64 z) := (cell_of_row v1 b 0 _ _ (0, 0) hx1).trans rfl;have k1 : v1.cell? ⟨b, 1, none⟩ = some (.slice B bs.length kb) := (cell_of_row v1 b 1 _ _ (0, 0) hx1).trans rfl;have k2 : v1.cell? ⟨b, 2, none⟩ = some (.int .i64 n) := (cell_of_row v1 b 2 _ _ (0, 0) hx1).trans rfl;have k3 : v1.cell? ⟨b, 3, none⟩ = some (.slice K ks.length kk) := (cell_of_row v1 b 3 _ _ (0, 0) hx1).trans rfl;have kl := (Array.getElem?_eq_some_iff.1 hx1).1;have fk : ∀ i, v1.frozen? ⟨b, i, none⟩ = false := fun i => by simp [World.frozen?, hx1]
 have hx2 : ((((v1.setCell ⟨b, 0, none⟩ (.int .i64 z)).setCell ⟨b, 1, none⟩ (.slice B LB.length kb)).setCell ⟨b, 2, none⟩ (.int .i64 n)).setCell ⟨b, 3, none⟩ (.slice K LK.length kk)).heap[b]? = some (.cells #[.int .i64 z, .slice B LB.length kb, .int .i64 n, .slice K LK.length kk] 57 (0, 0)) := (setbW 3 (.slice K LK.length kk) (setbW 2 (.int .i64 n) (setbW 1 (.slice B LB.length kb) (setbW 0 (.int .i64 z) hx1))));have hB2 : Below b w ((((v1.setCell ⟨b, 0, none⟩ (.int .i64 z)).setCell ⟨b, 1, none⟩ (.slice B LB.length kb)).setCell ⟨b, 2, none⟩ (.int .i64 n)).setCell ⟨b, 3, none⟩ (.slice K LK.length kk)) := ((((hB1.setCell (Nat.le_refl _) (.int .i64 z)).setCell (Nat.le_refl _) (.slice B LB.length kb)).setCell (Nat.le_refl _) (.int .i64 n)).setCell (Nat.le_refl _) (.slice K LK.length kk));obtain ⟨V2, hV2⟩ : ∃ V2, ((((v1.setCell ⟨b, 0, none⟩ (.int .i64 z)).setCell ⟨b, 1, none⟩ (.slice B LB.length kb)).setCell ⟨b, 2, none⟩ (.int .i64 n)).setCell ⟨b, 3, none⟩ (.slice K LK.length kk)) = V2 := ⟨_, rfl⟩;rw [hV2] at hx2 hB2;have HV2 := hJz hV2
 have HC2 : Hid (∀ V, Below V2.heap.size V2 V → V.heap[b]? = some (.cells #[.int .i64 z, .slice B LB.length kb, .int .i64 n, .slice K LK.length kk] 57 (0, 0)) ∧ Below b w V) := hJz fun V hV => by
  have hl := (Array.getElem?_eq_some_iff.1 hx2).1;exact ⟨(hV.block b hl).trans hx2, hB2.trans (hV.mono (Nat.le_of_lt hl))⟩
 have HCC : Hid (∀ V, Below V2.heap.size V2 V → V.cell? ⟨b, 0, none⟩ = some (.int .i64 z) ∧ V.cell? ⟨b, 1, none⟩ = some (.slice B LB.length kb) ∧ V.cell? ⟨b, 2, none⟩ = some (.int .i64 n) ∧ V.cell? ⟨b, 3, none⟩ = some (.slice K LK.length kk) ∧ b < V.heap.size) := hJz fun V hV => by
  have h := (HC2.out V hV).1;exact ⟨(cell_of_row V b 0 _ _ (0, 0) h).trans rfl, (cell_of_row V b 1 _ _ (0, 0) h).trans rfl, (cell_of_row V b 2 _ _ (0, 0) h).trans rfl, (cell_of_row V b 3 _ _ (0, 0) h).trans rfl, (Array.getElem?_eq_some_iff.1 h).1⟩
 have hcs := @cell_set;clear hx2 hB2 hV2 hx1 hB1;go_wp2_with (first | (refine (HT.out _).mono ?_; rintro e v9 ⟨rfl, rfl⟩) | fail);go_upto_region 2 with fail;rw [HV2.out];clear k0 k1 k2 k3 kl fk;obtain ⟨k0, k1, k2, k3, kl⟩ := HCC.out V2 (Below.refl _ _);have HA := hJz (HEW.out V2 (HC2.out V2 (Below.refl _ _)).2);go_wp2_with fail;refine HA.out.mono ?_;rintro e v3 ⟨rfl, hb3⟩;have HB3 := hJz hb3;clear k0 k1 k2 k3 kl hb3 HA;obtain ⟨k0, k1, k2, k3, kl⟩ := HCC.out v3 HB3.out;have HA := hJz (HER.out v3 (HC2.out v3 HB3.out).2);go_wp2_with fail;refine HA.out.mono ?_;rintro e v4 ⟨rfl, hb4⟩;have hb4 := since_step HB3.out hb4;have HB4 := hJz hb4;have HA := hJz (HPW.out v4 (HC2.out v4 hb4).2);clear k0 k1 k2 k3 kl hb4 HB3;go_wp2_with fail;refine HA.out.mono ?_;rintro e v5 ⟨⟨B5, k5, K5, j5, rfl, p5, r5⟩, hb5⟩;have hb5 := since_step HB4.out hb5;have hal := since_alloc (Below.refl _ v5) (.cells #[.int .i64 gz, .slice B5 gbs.length k5, .int .i64 gn, .slice K5 gks.length j5] 57);have hxx := heap_alloc_new v5 (.cells #[.int .i64 gz, .slice B5 gbs.length k5, .int .i64 gn, .slice K5 gks.length j5] 57);obtain ⟨xb, hxb⟩ : ∃ xb, v5.heap.size = xb := ⟨_, rfl⟩;obtain ⟨X5, hX5⟩ : ∃ X5, v5.alloc (.cells #[.int .i64 gz, .slice B5 gbs.length k5, .int .i64 gn, .slice K5 gks.length j5] 57) = X5 := ⟨_, rfl⟩;rw [hxb] at hxx;rw [hX5] at hal hxx;have hb5 := since_step hb5 hal;have hp5 := (Sl.of_own p5).below hal;have hr5 := (Sl.of_own r5).below hal;have hxlt := (Array.getElem?_eq_some_iff.1 hxx).1;have HX5 := hJz hX5;have HXB := hJz hxb;have HBX : Hid (∀ V, Below X5.heap.size X5 V → V.heap[xb]? = some (.cells #[.int .i64 gz, .slice B5 gbs.length k5, .int .i64 gn, .slice K5 gks.length j5] 57 (0, 0)) ∧ (Sl V B5 (by8 gbs) ∧ Sl V K5 (ints .i64 gks)) ∧ Below V2.heap.size V2 V) := hJz fun V hV => ⟨(hV.block _ hxlt).trans hxx, ⟨hp5.below hV, hr5.below hV⟩, since_step hb5 hV⟩;have HA := hJz (HPR.out X5);clear hal hxx hxb hX5 hb5 hp5 hr5 hxlt HB4 p5 r5;go_upto_region 5 with fail;rw [HX5.out, HXB.out];go_wp2_with fail;refine HA.out.mono ?_;rintro e v6 ⟨⟨B6, k6, K6, j6, rfl, p6, r6⟩, hb6⟩;have hal := since_alloc (Below.refl _ v6) (.cells #[.int .i64 gz, .slice B6 gbs.length k6, .int .i64 gn, .slice K6 gks.length j6] 57);have hyy := heap_alloc_new v6 (.cells #[.int .i64 gz, .slice B6 gbs.length k6, .int .i64 gn, .slice K6 gks.length j6] 57);obtain ⟨yb, hyb⟩ : ∃ yb, v6.heap.size = yb := ⟨_, rfl⟩;obtain ⟨Y6, hY6⟩ : ∃ Y6, v6.alloc (.cells #[.int .i64 gz, .slice B6 gbs.length k6, .int .i64 gn, .slice K6 gks.length j6] 57) = Y6 := ⟨_, rfl⟩;rw [hyb] at hyy;rw [hY6] at hal hyy;have hb6 := since_step hb6 hal;have hp6 := (Sl.of_own p6).below hal;have hr6 := (Sl.of_own r6).below hal;have HY6 := hJz hY6;have HYB := hJz hyb;obtain ⟨hxx, ⟨hp5, hr5⟩, hb7⟩ := HBX.out Y6 hb6;have HA := hJz (HSG.out B5 B6 K5 K6 k5 k6 j5 j6 Y6 hp5 hp6 hr5 hr6);have HB6 := hJz hb6;have x0 : Y6.cell? ⟨xb, 0, none⟩ = some (.int .i64 gz) := (cell_of_row Y6 xb 0 _ _ (0, 0) hxx).trans rfl;have x1 : Y6.cell? ⟨xb, 1, none⟩ = some (.slice B5 gbs.length k5) := (cell_of_row Y6 xb 1 _ _ (0, 0) hxx).trans rfl;have x2 : Y6.cell? ⟨xb, 2, none⟩ = some (.int .i64 gn) := (cell_of_row Y6 xb 2 _ _ (0, 0) hxx).trans rfl;have x3 : Y6.cell? ⟨xb, 3, none⟩ = some (.slice K5 gks.length j5) := (cell_of_row Y6 xb 3 _ _ (0, 0) hxx).trans rfl;have xl := (Array.getElem?_eq_some_iff.1 hxx).1;have y0 : Y6.cell? ⟨yb, 0, none⟩ = some (.int .i64 gz) := (cell_of_row Y6 yb 0 _ _ (0, 0) hyy).trans rfl;have y1 : Y6.cell? ⟨yb, 1, none⟩ = some (.slice B6 gbs.length k6) := (cell_of_row Y6 yb 1 _ _ (0, 0) hyy).trans rfl;have y2 : Y6.cell? ⟨yb, 2, none⟩ = some (.int .i64 gn) := (cell_of_row Y6 yb 2 _ _ (0, 0) hyy).trans rfl;have y3 : Y6.cell? ⟨yb, 3, none⟩ = some (.slice K6 gks.length j6) := (cell_of_row Y6 yb 3 _ _ (0, 0) hyy).trans rfl;have yl := (Array.getElem?_eq_some_iff.1 hyy).1;have hse : ((S8 LN).toList == (S8 LN).toList) = true := (Lib.bytes_beq_iff _ _).mpr rfl;have hen : (ex != ex) = false := by simp
 have hpn : (ep != ep) = false := by simp
 clear hal hyy hyb hY6 hb6 hp6 hr6 hxx hp5 hr5 hb7 p6 r6;go_upto_region 6 with fail;rw [HY6.out, HYB.out];go_upto_region 8 with (first | (go_at_call 24; refine HA.out.mono ?_; rintro e v8 ⟨rfl, hb8⟩; have HB8 := hJz (since_step HB6.out hb8); clear hb8 x0 x1 x2 x3 xl y0 y1 y2 y3 yl) | fail);obtain ⟨hxx, ⟨hp5, hr5⟩, hb8⟩ := HBX.out v8 HB8.out;have x0 : v8.cell? ⟨xb, 0, none⟩ = some (.int .i64 gz) := (cell_of_row v8 xb 0 _ _ (0, 0) hxx).trans rfl;have x1 : v8.cell? ⟨xb, 1, none⟩ = some (.slice B5 gbs.length k5) := (cell_of_row v8 xb 1 _ _ (0, 0) hxx).trans rfl;have x2 : v8.cell? ⟨xb, 2, none⟩ = some (.int .i64 gn) := (cell_of_row v8 xb 2 _ _ (0, 0) hxx).trans rfl;have x3 : v8.cell? ⟨xb, 3, none⟩ = some (.slice K5 gks.length j5) := (cell_of_row v8 xb 3 _ _ (0, 0) hxx).trans rfl;have xl := (Array.getElem?_eq_some_iff.1 hxx).1;have HA2 := hJz (HGO.out B5 k5 K5 j5 v8 hp5 hr5 (HC2.out v8 hb8).2);have HB9 := hJz hb8;clear hxx hp5 hr5 hb8 hse hen hpn;go_upto_region 9 with (first | (go_at_call 20; refine HA2.out.mono ?_; rintro e v9 ⟨rfl, hb9⟩; have HB10 := hJz (since_step HB9.out hb9); clear hb9 x0 x1 x2 x3 xl) | fail);go_cut [75] (fun cv wx => cv = .bool false ∧ v9 = wx)
 case first =>
  cases pk with
  | true =>
   obtain ⟨hy1, hy2⟩ := HLY.out (by first | trivial | rfl);have e0 := HEP.out;have e00 : prE true = 0 := rfl;rw [e00] at e0;subst e0;subst hy1;subst hy2;have hst : ((S8 LY).toList == (S8 LY).toList) = true := (Lib.bytes_beq_iff _ _).mpr rfl;clear e00;go_wp2_with fail;go_meet
   case rel => exact ⟨rfl, rfl⟩
  | false =>
   have e0 := HEP.out;have e00 : prE false = 3 := rfl;rw [e00] at e0;subst e0;clear e00;go_wp2_with fail;go_meet
   case rel => exact ⟨rfl, rfl⟩
 case rest =>
  obtain ⟨rfl, rfl⟩ := hcut;have hB10 := (HC2.out v9 HB10.out).2
  cases XO with
  | none =>
   have e0 := HEX.out;have e00 : (if (none : Option (List UInt8)).isSome = true then (0 : Int) else 3) = 3 := rfl;rw [e00] at e0;subst e0;have hl1 : [] = LN := HLN.out;have hl0 : (S8 LN).toList = [] := by rw [ByteArray.toList_eq, S8_data, ← hl1]
   have HL := hJz (HLV.out v9 hB10);clear e00 hl1;go_wp2_with fail;refine HL.out.mono ?_;rintro e y1 ⟨rfl, hb1⟩;have hB1 := (HC2.out _ (since_step HB10.out hb1)).2;go_wp2_with fail;go_ret;exact ⟨rfl, hB1⟩
  | some l2 =>
   have e0 := HEX.out;have e00 : (if (some l2).isSome = true then (0 : Int) else 3) = 0 := rfl;rw [e00] at e0;subst e0;obtain ⟨q1, q2, q3⟩ := HLB.out l2 rfl;have hpl := HPL.out l2 q1 v9 hB10;rw [q2, q3] at hpl;have e01 : prE true = 0 := rfl;rw [e01] at hpl;simp only at hpl;have HA3 := hJz hpl;have hgd : l2 = LN := HLN.out;subst hgd;clear e00 q1 q2 q3 hpl e01;go_wp2_with fail;refine HA3.out.mono ?_;rintro e y1 ⟨⟨B7, k7, K7, j7, rfl, p7, r7⟩, hb1⟩;have hal := since_alloc (Below.refl _ y1) (.cells #[.int .i64 z, .slice B7 LB.length k7, .int .i64 n, .slice K7 LK.length j7] 57);have hzz := heap_alloc_new y1 (.cells #[.int .i64 z, .slice B7 LB.length k7, .int .i64 n, .slice K7 LK.length j7] 57);obtain ⟨zb, hzb⟩ : ∃ zb, y1.heap.size = zb := ⟨_, rfl⟩;obtain ⟨Z7, hZ7⟩ : ∃ Z7, y1.alloc (.cells #[.int .i64 z, .slice B7 LB.length k7, .int .i64 n, .slice K7 LK.length j7] 57) = Z7 := ⟨_, rfl⟩;rw [hzb] at hzz;rw [hZ7] at hal hzz;have hb7 := since_step (since_step HB10.out hb1) hal;have hp7 := (Sl.of_own p7).below hal;have hr7 := (Sl.of_own r7).below hal;obtain ⟨hcb, hB7⟩ := HC2.out Z7 hb7;obtain ⟨hsb, hsk⟩ := HSL.out Z7 hB7;have HA4 := hJz (HSX.out B7 B K7 K k7 kb j7 kk Z7 hp7 hsb hr7 hsk);have HBZ := hJz hb7;have HZ7 := hJz hZ7;have HZB := hJz hzb;obtain ⟨k0, k1, k2, k3, kl⟩ := HCC.out Z7 hb7;have x0 : Z7.cell? ⟨zb, 0, none⟩ = some (.int .i64 z) := (cell_of_row Z7 zb 0 _ _ (0, 0) hzz).trans rfl;have x1 : Z7.cell? ⟨zb, 1, none⟩ = some (.slice B7 LB.length k7) := (cell_of_row Z7 zb 1 _ _ (0, 0) hzz).trans rfl;have x2 : Z7.cell? ⟨zb, 2, none⟩ = some (.int .i64 n) := (cell_of_row Z7 zb 2 _ _ (0, 0) hzz).trans rfl;have x3 : Z7.cell? ⟨zb, 3, none⟩ = some (.slice K7 LK.length j7) := (cell_of_row Z7 zb 3 _ _ (0, 0) hzz).trans rfl;have xl := (Array.getElem?_eq_some_iff.1 hzz).1;clear hal hzz hzb hZ7 hb7 hp7 hr7 hcb hB7 hsb hsk p7 r7 hb1 hB10;go_upto_region 14 with fail;rw [HZ7.out, HZB.out];go_wp2_with fail;refine HA4.out.mono ?_;rintro e y8 ⟨rfl, hb8⟩;have HB8 := hJz (since_step HBZ.out hb8);clear x0 k0 x1 k1 x2 k2 x3 k3 xl kl hb8;go_wp2_with fail;refine (HLV.out _ (HC2.out _ HB8.out).2).mono ?_;rintro e y9 ⟨rfl, hb9⟩;have hB9 := (HC2.out _ (since_step HB8.out hb9)).2;go_wp2_with fail;go_ret;exact ⟨rfl, hB9⟩
end
end Go.Proofs.YtpmnjojednbnpaaGreatDoor
