import Derived.Test.YtiggcpfmmgmncaaVp39
set_option maxHeartbeats 16000000
set_option maxRecDepth 100000
set_option linter.unusedVariables false
set_option linter.unusedSimpArgs false
namespace Go.Proofs.Ytiggcpfmmgmncaa
open Go.ChangeShapes Go.WideShapes Go.ChangeAt Go.RowKit
section
def blkQ (v2 b2 : Nat) (A : Option Addr) (n c s2 : Nat) (r : Value) : List Nat := v2 :: blkD b2 A n c s2 r
theorem blkV_type {B B2 b g kc v h s b2 c k : Nat} {K A SA : Option Addr} {d : Dv} {R : List (RowS Nat)} {x : Vv} {w : World} (hd : DrA B w b g K kc d) (hv : VaA B2 w v h s b2 A c R SA k x) : ∀ y ∈ blkV b g h s (x.sc.row A c), ∃ cs z T, w.heap[y]? = some (.cells cs T z) ∧ (T = 71 ∨ T = 142 ∨ T = 66 ∨ T = 36 ∨ T = 123) := fun y hy => by
  rcases List.mem_cons.1 hy with e | hy
  · exact ⟨_, _, _, by rw [e]; exact hv.hb, .inr (.inr (.inr (.inr rfl)))⟩
  · obtain ⟨cs, z, T, h1, h2⟩ := blk8_type hd hv.sc y hy
    exact ⟨cs, z, T, h1, by rcases h2 with e | e | e | e <;> rw [e] <;> simp⟩
theorem blkQ_type {B b c kc s c2 v k : Nat} {A KA A2 SA : Option Addr} {R R2 : List (RowS Nat)} {X : Rv} {y : Vv} {w : World} (h : RvA B w b A c R KA kc X) (hy : RsA B w s b A2 c2 R2 y.sc) (hv : w.heap[v]? = some (.cells (y.rcells b s SA k) 91 (0, 0))) : ∀ z ∈ blkQ v b A X.C.length c s (y.sc.row A2 c2), ∃ cs q T, w.heap[z]? = some (.cells cs T q) ∧ (T = 49 ∨ T = 55 ∨ T = 36 ∨ T = 91) := fun z hz => by
  rcases List.mem_cons.1 hz with e | hz
  · exact ⟨_, _, _, by rw [e]; exact hv, .inr (.inr (.inr rfl))⟩
  · obtain ⟨cs, q, T, h1, h2⟩ := blkD_type h hy z hz
    exact ⟨cs, q, T, h1, by rcases h2 with e | e | e <;> rw [e] <;> simp⟩
theorem VaA.farL {B v h s b c k : Nat} {A SA : Option Addr} {R : List (RowS Nat)} {x : Vv} {w w' : World} {l : List Nat} {P : TypeId → Prop} (hv : VaA B w v h s b A c R SA k x) (hc : ChgL l w w') (ht : ∀ y ∈ l, ∃ cs z T, w.heap[y]? = some (.cells cs T z) ∧ P T) (h1 : ¬ P 99) (h2 : ¬ P 123) (h3 : ¬ P 66) (h4 : ¬ P 5) (h5 : ∀ y ∈ l, (x.sc.row A c).ownBlock ≠ some y) : VaA B w' v h s b A c R SA k x :=
  ⟨by rw [hc.block v (Array.getElem?_eq_some_iff.1 hv.vb).1 (not_mem_type ht hv.vb h1)]; exact hv.vb, by rw [hc.block h (Array.getElem?_eq_some_iff.1 hv.hb).1 (not_mem_type ht hv.hb h2)]; exact hv.hb, hv.sc.farL hc ht h3 h5 h4, hc.own hv.st (own_not_type ht hv.st h4), hv.ge, hv.small⟩
structure TwoS (B : Nat) (w : World) (b g v h s : Nat) (K : Option Addr) (kc : Nat) (A : Option Addr) (c : Nat) (R : List (RowS Nat)) (SA : Option Addr) (k : Nat) (b2 v2 s2 : Nat) (A2 : Option Addr) (c2 : Nat) (R2 : List (RowS Nat)) (KA : Option Addr) (kc2 : Nat) (A3 : Option Addr) (c3 : Nat) (R3 : List (RowS Nat)) (SA2 : Option Addr) (k2 : Nat) (d : Dv) (x : Vv) (X : Rv) (y : Vv) : Prop where
  dr : DrA B w b g K kc d
  va : VaA B w v h s b A c R SA k x
  rv : RvA B w b2 A2 c2 R2 KA kc2 X
  rs : RsA B w s2 b2 A3 c3 R3 y.sc
  bx : w.heap[v2]? = some (.cells (y.rcells b2 s2 SA2 k2) 91 (0, 0))
  ge : B ≤ v2
  st : SlX (blkV b g h s (x.sc.row A c) ++ blkQ v2 b2 A2 X.C.length c2 s2 (y.sc.row A3 c3)) w SA2 (by8 y.state)
  rows : ∀ r ∈ R3, SlX (blkV b g h s (x.sc.row A c) ++ blkQ v2 b2 A2 X.C.length c2 s2 (y.sc.row A3 c3)) w r.A (by8 r.l)
  ap : ∀ z ∈ blkV b g h s (x.sc.row A c), z ∉ blkQ v2 b2 A2 X.C.length c2 s2 (y.sc.row A3 c3)
  row : ∀ z ∈ blkR b2 A2 X.C.length c2, (y.sc.row A3 c3).ownBlock ≠ some z
def TwoV (B : Nat) (w : World) (b g v b2 v2 : Nat) (d : Dv) (x : Vv) (X : Rv) (y : Vv) : Prop :=
  ∃ (h s : Nat) (K : Option Addr) (kc : Nat) (A : Option Addr) (c : Nat) (R : List (RowS Nat)) (SA : Option Addr) (k s2 : Nat) (A2 : Option Addr) (c2 : Nat) (R2 : List (RowS Nat)) (KA : Option Addr) (kc2 : Nat) (A3 : Option Addr) (c3 : Nat) (R3 : List (RowS Nat)) (SA2 : Option Addr) (k2 : Nat),
    TwoS B w b g v h s K kc A c R SA k b2 v2 s2 A2 c2 R2 KA kc2 A3 c3 R3 SA2 k2 d x X y
def Kp10 (w w' : World) : Prop := ∀ (n : Nat) (cs : Array Value) (T : TypeId) (z : Nat × Nat), w.heap[n]? = some (.cells cs T z) → T ≠ 71 → T ≠ 142 → T ≠ 66 → T ≠ 36 → T ≠ 123 → T ≠ 49 → T ≠ 55 → T ≠ 91 → w'.heap[n]? = w.heap[n]?
theorem Kp10.of_below {w w' : World} (h : Below w.heap.size w w') : Kp10 w w' := fun n cs T z hn _ _ _ _ _ _ _ _ => h.block n (Array.getElem?_eq_some_iff.1 hn).1
theorem Kp10.trans {w w1 w2 : World} (h : Kp10 w w1) (k : Kp10 w1 w2) : Kp10 w w2 := fun n cs T z hn a b c d e f g i => by
  have h1 := h n cs T z hn a b c d e f g i
  exact (k n cs T z (h1.trans hn) a b c d e f g i).trans h1
section
variable {B b g v h s kc c k b2 v2 s2 c2 kc2 c3 k2 : Nat} {w w' : World} {K A SA A2 KA A3 SA2 : Option Addr} {R R2 R3 : List (RowS Nat)} {d d' : Dv} {x x' : Vv} {X X' : Rv} {y y' : Vv}
theorem TwoS.below (T : TwoS B w b g v h s K kc A c R SA k b2 v2 s2 A2 c2 R2 KA kc2 A3 c3 R3 SA2 k2 d x X y) (hb : Below w.heap.size w w') : TwoS B w' b g v h s K kc A c R SA k b2 v2 s2 A2 c2 R2 KA kc2 A3 c3 R3 SA2 k2 d x X y :=
  ⟨T.dr.below hb, T.va.below hb, T.rv.below hb, T.rs.below hb, by rw [hb.block v2 (Array.getElem?_eq_some_iff.1 T.bx).1]; exact T.bx, T.ge, T.st.below hb, fun r hr => (T.rows r hr).below hb, T.ap, T.row⟩
theorem TwoV.below (T : TwoV B w b g v b2 v2 d x X y) (hb : Below w.heap.size w w') : TwoV B w' b g v b2 v2 d x X y := by
  obtain ⟨h, s, K, kc, A, c, R, SA, k, s2, A2, c2, R2, KA, kc2, A3, c3, R3, SA2, k2, T⟩ := T
  exact ⟨h, s, K, kc, A, c, R, SA, k, s2, A2, c2, R2, KA, kc2, A3, c3, R3, SA2, k2, T.below hb⟩
theorem TwoS.vlt (T : TwoS B w b g v h s K kc A c R SA k b2 v2 s2 A2 c2 R2 KA kc2 A3 c3 R3 SA2 k2 d x X y) : ∀ z ∈ blkV b g h s (x.sc.row A c), B ≤ z := fun z hz => by
  rcases List.mem_cons.1 hz with e | hz
  · rw [e]; exact T.va.ge.2
  · exact blk8_ge T.dr T.va.sc z hz
theorem TwoS.qlt (T : TwoS B w b g v h s K kc A c R SA k b2 v2 s2 A2 c2 R2 KA kc2 A3 c3 R3 SA2 k2 d x X y) : ∀ z ∈ blkQ v2 b2 A2 X.C.length c2 s2 (y.sc.row A3 c3), B ≤ z := fun z hz => by
  rcases List.mem_cons.1 hz with e | hz
  · rw [e]; exact T.ge
  · exact blkD_ge T.rv T.rs z hz
theorem TwoS.prog (T : TwoS B w b g v h s K kc A c R SA k b2 v2 s2 A2 c2 R2 KA kc2 A3 c3 R3 SA2 k2 d x X y) (hB : B ≤ w.heap.size) (hc : ChgL (blkV b g h s (x.sc.row A c)) w w') {v' h' s' c' k' : Nat} {A' SA' : Option Addr} {R' : List (RowS Nat)} (hd' : DrW B w' b g d') (hv' : VaA B w' v' h' s' b A' c' R' SA' k' x') (hgrow : ∀ z ∈ blkV b g h' s' (x'.sc.row A' c'), z ∈ blkV b g h s (x.sc.row A c) ∨ w.heap.size ≤ z) :
    TwoV B w' b g v' b2 v2 d' x' X y ∧ Below B w w' ∧ Kp10 w w' := by
  obtain ⟨K', kc', hd'⟩ := hd'
  have htV := blkV_type T.dr T.va
  have hQlt := blk_lt_of (blkQ_type T.rv T.rs T.bx)
  have hmem : ∀ z ∈ blkR b2 A2 X.C.length c2, z ∈ blkQ v2 b2 A2 X.C.length c2 s2 (y.sc.row A3 c3) := fun z hz => List.mem_cons_of_mem _ (List.mem_append.2 (.inl hz))
  have hrowR : ∀ z ∈ blkV b g h s (x.sc.row A c), (Value.slice A2 X.C.length c2).ownBlock ≠ some z := fun z hz he => T.ap z hz (hmem z (by unfold blkR; exact List.mem_cons_of_mem _ (Option.mem_toList.2 (Option.mem_def.2 he))))
  have hrowS : ∀ z ∈ blkV b g h s (x.sc.row A c), (y.sc.row A3 c3).ownBlock ≠ some z := fun z hz he => T.ap z hz (List.mem_cons_of_mem _ (List.mem_append.2 (.inr (List.mem_cons_of_mem _ (Option.mem_toList.2 (Option.mem_def.2 he))))))
  have hgrow2 : ∀ z ∈ blkV b g h' s' (x'.sc.row A' c') ++ blkQ v2 b2 A2 X.C.length c2 s2 (y.sc.row A3 c3), z ∈ blkV b g h s (x.sc.row A c) ++ blkQ v2 b2 A2 X.C.length c2 s2 (y.sc.row A3 c3) ∨ w.heap.size ≤ z := fun z hz => by
    rcases List.mem_append.1 hz with hz | hz
    · rcases hgrow z hz with h9 | h9
      · exact .inl (List.mem_append.2 (.inl h9))
      · exact .inr h9
    · exact .inl (List.mem_append.2 (.inr hz))
  have hc2 := hc.mono (m := blkV b g h s (x.sc.row A c) ++ blkQ v2 b2 A2 X.C.length c2 s2 (y.sc.row A3 c3)) (fun z hz => List.mem_append.2 (.inl hz))
  refine ⟨⟨h', s', K', kc', A', c', R', SA', k', s2, A2, c2, R2, KA, kc2, A3, c3, R3, SA2, k2, ⟨hd', hv', T.rv.far hc (not_mem_type htV T.rv.blk (by decide)) hrowR (fun z hz => ?_), T.rs.far hc (not_mem_type htV T.rs.blk (by decide)) hrowS, ?_, T.ge, T.st.chg hc2 hgrow2, fun r hr => (T.rows r hr).chg hc2 hgrow2, fun z hz hq => ?_, T.row⟩⟩, hc.below hB (fun z hz => T.vlt z hz), fun n cs T' z hn a1 a2 a3 a4 a5 _ _ _ => hc.block n (Array.getElem?_eq_some_iff.1 hn).1 (not_mem_type htV hn (fun h => by rcases h with h | h | h | h | h; exact a1 h; exact a2 h; exact a3 h; exact a4 h; exact a5 h))⟩
  · obtain ⟨cs, q, T', a, e⟩ := htV z hz
    exact ⟨cs, q, T', a, by rcases e with e | e | e | e | e <;> rw [e] <;> decide, by rcases e with e | e | e | e | e <;> rw [e] <;> decide⟩
  · rw [hc.block v2 (Array.getElem?_eq_some_iff.1 T.bx).1 (not_mem_type htV T.bx (by decide))]; exact T.bx
  · rcases hgrow z hz with h9 | h9
    · exact T.ap z h9 hq
    · have := hQlt z hq; omega
theorem TwoS.doc (T : TwoS B w b g v h s K kc A c R SA k b2 v2 s2 A2 c2 R2 KA kc2 A3 c3 R3 SA2 k2 d x X y) (hB : B ≤ w.heap.size) (hc : ChgL (blkQ v2 b2 A2 X.C.length c2 s2 (y.sc.row A3 c3)) w w') {v' s' kc' c3' k2' : Nat} {KA' A3' SA2' : Option Addr} {R2' R3' : List (RowS Nat)} (hv' : RvA B w' b2 A2 c2 R2' KA' kc' X') (hs' : RsA B w' s' b2 A3' c3' R3' y'.sc) (hbx : w'.heap[v']? = some (.cells (y'.rcells b2 s' SA2' k2') 91 (0, 0))) (hge : B ≤ v') (hlen : X'.C.length = X.C.length)
    (hgrow : ∀ z ∈ blkQ v' b2 A2 X.C.length c2 s' (y'.sc.row A3' c3'), z ∈ blkQ v2 b2 A2 X.C.length c2 s2 (y.sc.row A3 c3) ∨ w.heap.size ≤ z) (h7' : ∀ z ∈ blkR b2 A2 X.C.length c2, (y'.sc.row A3' c3').ownBlock ≠ some z)
    (hst : SlX (blkV b g h s (x.sc.row A c) ++ blkQ v' b2 A2 X.C.length c2 s' (y'.sc.row A3' c3')) w' SA2' (by8 y'.state))
    (h5' : ∀ r ∈ R3', SlX (blkV b g h s (x.sc.row A c) ++ blkQ v' b2 A2 X.C.length c2 s' (y'.sc.row A3' c3')) w' r.A (by8 r.l)) :
    TwoV B w' b g v b2 v' d x X' y' ∧ Below B w w' ∧ Kp10 w w' := by
  have htD := blkQ_type T.rv T.rs T.bx
  have hPlt := blk_lt_of (blkV_type T.dr T.va)
  have hnotU : ∀ z ∈ blkQ v2 b2 A2 X.C.length c2 s2 (y.sc.row A3 c3), (x.sc.row A c).ownBlock ≠ some z := fun z hz he => T.ap z (by unfold blkV blk8; exact List.mem_cons_of_mem _ (List.mem_cons_of_mem _ (List.mem_cons_of_mem _ (List.mem_cons_of_mem _ (Option.mem_toList.2 (Option.mem_def.2 he)))))) hz
  refine ⟨⟨h, s, K, kc, A, c, R, SA, k, s', A2, c2, R2', KA', kc', A3', c3', R3', SA2', k2', ⟨T.dr.far hc htD (by decide) (by decide) (by decide), T.va.farL hc htD (by decide) (by decide) (by decide) (by decide) hnotU, hv', hs', hbx, hge, by rw [hlen]; exact hst, fun r hr => by rw [hlen]; exact h5' r hr, fun z hz hq => ?_, fun z hz => ?_⟩⟩, hc.below hB (fun z hz => T.qlt z hz), fun n cs T' z hn _ _ _ a4 _ a5 a6 a7 => hc.block n (Array.getElem?_eq_some_iff.1 hn).1 (not_mem_type htD hn (fun h => by rcases h with h | h | h | h; exact a5 h; exact a6 h; exact a4 h; exact a7 h))⟩
  · rw [hlen] at hq
    rcases hgrow z hq with h9 | h9
    · exact T.ap z hz h9
    · have := hPlt z hz; omega
  · rw [hlen] at hz; exact h7' z hz
theorem TwoV.papp {rA : Option Addr} {rc_ : Nat} {l : List Nat} (T : TwoV B w b g v b2 v2 d x X y) (hB : B ≤ w.heap.size) (hlc : l.length ≤ rc_) (hcm : rc_ ≤ maxLen) (hl : l.length ≤ 100000) (hrs : Sl w rA (by8 l)) (hin : ∀ k o, rA = some ⟨k, o, none⟩ → by8 l ≠ [] → k < B) (ho : Oct l) (ht : x.sc.t ≤ d.S.length) (hLn : x.sc.L.length ≤ 900000) :
    Calls Try.prog 38 #[.pointer (some ⟨v, 0, none⟩), .slice rA l.length rc_] w fun e w' => e = .returned (.int .i64 (x.app d l).2) ∧ TwoV B w' b g v b2 v2 (x.app d l).1.2 (x.app d l).1.1 X y ∧ Below B w w' ∧ Kp10 w w' := by
  obtain ⟨h, s, K, kc, A, c, R, SA, k, s2, A2, c2, R2, KA, kc2, A3, c3, R3, SA2, k2, T⟩ := T
  refine (vapp_any rA rc_ l w T.va T.dr hB hlc hcm hl (SlF.of_old hrs hin T.dr.ge.1 T.dr.ge.2) ho ht hLn).mono ?_
  rintro e w' ⟨rfl, s', A', c', R', SA', k', hv', hd', hc, hgrow⟩
  exact ⟨rfl, T.prog hB hc ⟨_, _, hd'⟩ hv' hgrow⟩
theorem TwoV.pcomp {rA : Option Addr} {rc_ : Nat} {l : List Nat} (T : TwoV B w b g v b2 v2 d x X y) (hB : B ≤ w.heap.size) (hlc : l.length ≤ rc_) (hcm : rc_ ≤ maxLen) (hl : l.length ≤ 100000) (hrs : Sl w rA (by8 l)) (hin : ∀ k o, rA = some ⟨k, o, none⟩ → by8 l ≠ [] → k < B) (ho : Oct l) (he : 1 ≤ x.each) (h2e : 2 * x.each ≤ d.S.length) (hera : x.era + 1 ≤ 16777215) (hnew : (d.save 0 x.each x.life (x.era + 1) l).2 = 0 → newestN (d.save 0 x.each x.life (x.era + 1) l).1.S (2 * x.each) ((d.save 0 x.each x.life (x.era + 1) l).1.S.length - 2 * x.each) < x.life + 1) :
    Calls Try.prog 40 #[.pointer (some ⟨v, 0, none⟩), .slice rA l.length rc_] w fun e w' => e = .returned (.int .i64 (x.compact d l).2) ∧ TwoV B w' b g v b2 v2 (x.compact d l).1.2 (x.compact d l).1.1 X y ∧ Below B w w' ∧ Kp10 w w' := by
  obtain ⟨h, s, K, kc, A, c, R, SA, k, s2, A2, c2, R2, KA, kc2, A3, c3, R3, SA2, k2, T⟩ := T
  refine (vcompact_any rA rc_ l w T.va T.dr hB hlc hcm hl (SlF.of_old hrs hin T.dr.ge.1 T.dr.ge.2) ho he h2e hera hnew).mono ?_
  rintro e w' ⟨rfl, s', A', c', R', SA', k', hv', hd', hc, hgrow⟩
  exact ⟨rfl, T.prog hB hc ⟨_, _, hd'⟩ hv' hgrow⟩
theorem chg2_blkV9 {b g h s : Nat} {v : Value} {w w' : World} (hc : Chg2 b g w w') : ChgL (blkV b g h s v) w w' := ChgL.of2 hc (by simp [blkV, blk8]) (by simp [blkV, blk8])
theorem TwoV.pfuse {n : Int} {L : Option Addr} {lc : Nat} {l : List Nt} (T : TwoV B w b g v b2 v2 d x X y) (hB : B ≤ w.heap.size) (hl : l.length ≤ 1000000) (hn : n ≤ 9223372036854775807) (hs : Sl w L (rc Nt.cells l)) (hin : ∀ k o, L = some ⟨k, o, none⟩ → rc Nt.cells l ≠ [] → k < B) :
    Calls Try.prog 20 #[.pointer (some ⟨b, 0, none⟩), .int .i64 n, .slice L l.length lc] w fun e w' => e = .returned (.int .i64 (d.fuse n l).2) ∧ TwoV B w' b g v b2 v2 (d.fuse n l).1 x X y ∧ Below B w w' ∧ Kp10 w w' := by
  obtain ⟨h, s, K, kc, A, c, R, SA, k, s2, A2, c2, R2, KA, kc2, A3, c3, R3, SA2, k2, T⟩ := T
  refine (dfuse_any n L lc l w T.dr hB hl hn (SlF.of_old hs hin T.dr.ge.1 T.dr.ge.2)).mono ?_
  rintro e w' ⟨rfl, hc, hd'⟩
  exact ⟨rfl, T.prog hB (chg2_blkV9 hc) hd' (VaA.chg2 T.dr T.va hc) (fun z hz => .inl hz)⟩
theorem TwoV.start (T : TwoV B w b g v b2 v2 d x X y) (hB : B ≤ w.heap.size) :
    Calls Try.prog 23 #[.pointer (some ⟨b, 0, none⟩)] w fun e w' => e = .returned (.int .i64 0) ∧ TwoV B w' b g v b2 v2 d.fresh x X y ∧ Below B w w' ∧ Kp10 w w' := by
  obtain ⟨h, s, K, kc, A, c, R, SA, k, s2, A2, c2, R2, KA, kc2, A3, c3, R3, SA2, k2, T⟩ := T
  refine (dstart_any w T.dr).mono ?_
  rintro e w' ⟨rfl, hc, hd'⟩
  exact ⟨rfl, T.prog hB (chg2_blkV9 hc) hd' (VaA.chg2 T.dr T.va hc) (fun z hz => .inl hz)⟩
theorem TwoV.popen {each : Nat} (T : TwoV B w b g v b2 v2 d x X y) (hB : B ≤ w.heap.size) (h1 : 1 ≤ each) (h2 : 2 * each < d.S.length) (hnew : newestN d.S 0 d.S.length < 16777214) :
    Calls Try.prog 36 #[.pointer (some ⟨b, 0, none⟩), .int .i64 each] w fun e w' => ∃ v', e = .returned (.tuple #[.pointer (some ⟨v', 0, none⟩), .int .i64 0]) ∧ TwoV B w' b g v' b2 v2 d (openV d.S each) X y ∧ Below B w w' ∧ Kp10 w w' := by
  obtain ⟨h, s, K, kc, A, c, R, SA, k, s2, A2, c2, R2, KA, kc2, A3, c3, R3, SA2, k2, T⟩ := T
  refine (vopen_ok each w T.dr hB h1 h2 hnew).mono ?_
  rintro e w' ⟨v', h', s', A', c', R', SA', k', rfl, hv', hb, hz1, hz2, hz3, hz4⟩
  refine ⟨v', rfl, T.prog hB (ChgL.of_below hb) ⟨_, _, T.dr.below hb⟩ hv' (fun z hz => ?_)⟩
  rcases List.mem_cons.1 hz with e | hz
  · exact .inr (by rw [e]; exact hz2)
  · rcases blk8_new (v := x.sc.row A c) (s := s) hz3 hz4 z hz with h1 | h1
    · exact .inl (List.mem_cons_of_mem _ h1)
    · exact .inr h1
theorem TwoV.rapp {rA : Option Addr} {rc_ : Nat} {l : List Nat} (T : TwoV B w b g v b2 v2 d x X y) (hB : B ≤ w.heap.size) (hlc : l.length ≤ rc_) (hcm : rc_ ≤ maxLen) (hl : l.length ≤ 100000) (hrs : Sl w rA (by8 l)) (hin : ∀ k o, rA = some ⟨k, o, none⟩ → by8 l ≠ [] → k < B) (ho : Oct l) (ht : y.sc.t ≤ X.C.length) (hfu : X.fuse ≤ 9223372036854775807) (hfl : -9223372036854775807 ≤ X.fuse) (hLn : y.sc.L.length ≤ 900000) :
    Calls Try.prog 39 #[.pointer (some ⟨v2, 0, none⟩), .slice rA l.length rc_] w fun e w' => e = .returned (.int .i64 (y.rapp X l).2) ∧ TwoV B w' b g v b2 v2 d x (y.rapp X l).1.2 (y.rapp X l).1.1 ∧ Below B w w' ∧ Kp10 w w' := by
  obtain ⟨h, s, K, kc, A, c, R, SA, k, s2, A2, c2, R2, KA, kc2, A3, c3, R3, SA2, k2, T⟩ := T
  refine (rvapp_any rA rc_ l w T.rv T.rs T.bx hB hlc hcm hl hrs ho ht hfu hfl T.row hLn).mono ?_
  rintro e w' ⟨rfl, R', A3', c3', R3', hv', hs', hR3, hbx, hc, hrow⟩
  have hlen : (y.rapp X l).1.2.C.length = X.C.length := by
    unfold Vv.rapp
    split
    · rfl
    · exact rapp_len
  have hstate : (y.rapp X l).1.1.state = y.state := by
    unfold Vv.rapp
    split <;> rfl
  have hgrow : ∀ z ∈ blkQ v2 b2 A2 X.C.length c2 s2 ((y.rapp X l).1.1.sc.row A3' c3'), z ∈ blkQ v2 b2 A2 X.C.length c2 s2 (y.sc.row A3 c3) ∨ w.heap.size ≤ z := fun z hz => by
    rcases List.mem_cons.1 hz with e | hz
    · exact .inl (by rw [e]; exact List.mem_cons_self ..)
    rcases List.mem_append.1 hz with hz | hz
    · exact .inl (List.mem_cons_of_mem _ (List.mem_append.2 (.inl hz)))
    · rcases List.mem_cons.1 hz with e | hz
      · exact .inl (List.mem_cons_of_mem _ (List.mem_append.2 (.inr (by rw [e]; exact List.mem_cons_self ..))))
      · have e2 := Option.mem_def.1 (Option.mem_toList.1 hz)
        rcases hrow with h9 | ⟨k, h9, h10⟩
        · rw [h9] at e2
          exact .inl (List.mem_cons_of_mem _ (List.mem_append.2 (.inr (List.mem_cons_of_mem _ (Option.mem_toList.2 (Option.mem_def.2 e2))))))
        · rw [h10] at e2
          injection e2 with e2
          exact .inr (by omega)
  have hgrow2 : ∀ z ∈ blkV b g h s (x.sc.row A c) ++ blkQ v2 b2 A2 X.C.length c2 s2 ((y.rapp X l).1.1.sc.row A3' c3'), z ∈ blkV b g h s (x.sc.row A c) ++ blkQ v2 b2 A2 X.C.length c2 s2 (y.sc.row A3 c3) ∨ w.heap.size ≤ z := fun z hz => by
    rcases List.mem_append.1 hz with hz | hz
    · exact .inl (List.mem_append.2 (.inl hz))
    · rcases hgrow z hz with h9 | h9
      · exact .inl (List.mem_append.2 (.inr h9))
      · exact .inr h9
  have hc2 : ChgL (blkV b g h s (x.sc.row A c) ++ blkQ v2 b2 A2 X.C.length c2 s2 (y.sc.row A3 c3)) w w' := hc.mono (fun z hz => List.mem_append.2 (.inr hz))
  refine ⟨rfl, T.doc hB hc hv' hs' hbx T.ge hlen hgrow (fun z hz => ?_) (by rw [hstate]; exact T.st.chg hc2 hgrow2) (fun r hr => ?_)⟩
  · rcases hrow with h9 | ⟨k, h9, h10⟩
    · rw [h9]; exact T.row z hz
    · rw [h10]
      intro e
      injection e with e
      have := blk_lt_of T.rv.row_blk z hz
      omega
  · rcases hR3 with e | e
    · rw [e] at hr; exact (T.rows r hr).chg hc2 hgrow2
    · rw [e] at hr
      rcases List.mem_append.1 hr with hr | hr
      · exact (T.rows r hr).chg hc2 hgrow2
      · rw [List.mem_singleton] at hr
        subst hr
        refine SlX.chg (l := blkV b g h s (x.sc.row A c) ++ blkQ v2 b2 A2 X.C.length c2 s2 (y.sc.row A3 c3)) ⟨hrs, fun p hp hne => ?_⟩ hc2 hgrow2
        obtain ⟨k, o, hA, _⟩ := hrs hne
        rw [hA] at hp
        injection hp with hp
        subst hp
        have hk := hin k o hA hne
        exact ⟨Nat.lt_of_lt_of_le hk hB, fun hm => by
          rcases List.mem_append.1 hm with hm | hm
          · exact absurd (T.vlt _ hm) (Nat.not_le.2 hk)
          · exact absurd (T.qlt _ hm) (Nat.not_le.2 hk)⟩
theorem TwoV.rfuse {n : Int} {L : Option Addr} {lc : Nat} {l : List Nt} (T : TwoV B w b g v b2 v2 d x X y) (hB : B ≤ w.heap.size) (hl : l.length ≤ 1000000) (hs : Sl w L (rc Nt.cells l)) (hin : ∀ k o, L = some ⟨k, o, none⟩ → rc Nt.cells l ≠ [] → k < B) :
    Calls Try.prog 22 #[.pointer (some ⟨b2, 0, none⟩), .int .i64 n, .slice L l.length lc] w fun e w' => e = .returned (.int .i64 (X.fused n l).2) ∧ TwoV B w' b g v b2 v2 d x (X.fused n l).1 y ∧ Below B w w' ∧ Kp10 w w' := by
  obtain ⟨h, s, K, kc, A, c, R, SA, k, s2, A2, c2, R2, KA, kc2, A3, c3, R3, SA2, k2, T⟩ := T
  refine (rfuse_any n L lc l w T.rv hB hl ⟨hs, fun p hp hne => ?_⟩).mono ?_
  · obtain ⟨k, o, hA, _⟩ := hs hne
    rw [hA] at hp
    injection hp with hp
    subst hp
    have hk := hin k o hA hne
    exact ⟨Nat.lt_of_lt_of_le hk hB, fun hm => by
      rw [List.mem_singleton] at hm
      have h9 : B ≤ b2 := T.rv.ge
      have h8 : k = b2 := hm
      omega⟩
  · rintro e w' ⟨rfl, KA', kc', hv', hc⟩
    have hCl : (X.fused n l).1.C.length = X.C.length := by
      unfold Rv.fused
      split <;> rfl
    have hk1 : ∀ z ∈ [b2], ∃ cs q T', w.heap[z]? = some (.cells cs T' q) ∧ T' = 49 := fun z hz => by rw [List.mem_singleton] at hz; rw [hz]; exact ⟨_, _, _, T.rv.blk, rfl⟩
    have hcD : ChgL (blkQ v2 b2 A2 X.C.length c2 s2 (y.sc.row A3 c3)) w w' := hc.mono (fun z hz => by rw [List.mem_singleton] at hz; rw [hz]; exact List.mem_cons_of_mem _ (List.mem_append.2 (.inl (List.mem_cons_self ..))))
    have hs9 : RsA B w' s2 b2 A3 c3 R3 y.sc := T.rs.far hc (not_mem_type hk1 T.rs.blk (by decide)) (own_not_type hk1 T.rs.own (by decide))
    have hb9 := (hc.block v2 (Array.getElem?_eq_some_iff.1 T.bx).1 (not_mem_type hk1 T.bx (by decide))).trans T.bx
    have hc2 := hcD.mono (m := blkV b g h s (x.sc.row A c) ++ blkQ v2 b2 A2 X.C.length c2 s2 (y.sc.row A3 c3)) (fun z hz => List.mem_append.2 (.inr hz))
    exact ⟨rfl, T.doc hB hcD hv' hs9 hb9 T.ge hCl (fun z hz => .inl hz) T.row (T.st.chg hc2 (fun z hz => .inl hz)) (fun r hr => (T.rows r hr).chg hc2 (fun z hz => .inl hz))⟩
theorem TwoV.turn (T : TwoV B w b g v b2 v2 d x X y) (hB : B ≤ w.heap.size) : TwoV B ((w.setCell ⟨b2, 1, none⟩ (.bool false)).setCell ⟨b2, 2, none⟩ (.int .i64 (-1))) b g v b2 v2 d x { X with off := false, fuse := -1 } y ∧ Below B w ((w.setCell ⟨b2, 1, none⟩ (.bool false)).setCell ⟨b2, 2, none⟩ (.int .i64 (-1))) ∧ Kp10 w ((w.setCell ⟨b2, 1, none⟩ (.bool false)).setCell ⟨b2, 2, none⟩ (.int .i64 (-1))) := by
  obtain ⟨h, s, K, kc, A, c, R, SA, k, s2, A2, c2, R2, KA, kc2, A3, c3, R3, SA2, k2, T⟩ := T
  have hv1 : RvA B (w.setCell ⟨b2, 1, none⟩ (.bool false)) b2 A2 c2 R2 KA kc2 { X with off := false } := T.rv.set 1 _ rfl rfl (by simp [Rv.cells])
  have hv2 : RvA B ((w.setCell ⟨b2, 1, none⟩ (.bool false)).setCell ⟨b2, 2, none⟩ (.int .i64 (-1))) b2 A2 c2 R2 KA kc2 { X with off := false, fuse := -1 } := hv1.set 2 _ rfl rfl (by simp [Rv.cells])
  have hc : ChgL [b2] w ((w.setCell ⟨b2, 1, none⟩ (.bool false)).setCell ⟨b2, 2, none⟩ (.int .i64 (-1))) := (ChgL.set (l := [b2]) 1 _ (by simp)).trans (ChgL.set (l := [b2]) 2 _ (by simp)) (fun z hz => .inl hz)
  have hk1 : ∀ z ∈ [b2], ∃ cs q T', w.heap[z]? = some (.cells cs T' q) ∧ T' = 49 := fun z hz => by rw [List.mem_singleton] at hz; rw [hz]; exact ⟨_, _, _, T.rv.blk, rfl⟩
  have hcD : ChgL (blkQ v2 b2 A2 X.C.length c2 s2 (y.sc.row A3 c3)) w ((w.setCell ⟨b2, 1, none⟩ (.bool false)).setCell ⟨b2, 2, none⟩ (.int .i64 (-1))) := hc.mono (fun z hz => by rw [List.mem_singleton] at hz; rw [hz]; exact List.mem_cons_of_mem _ (List.mem_append.2 (.inl (List.mem_cons_self ..))))
  have hs9 := T.rs.far hc (not_mem_type hk1 T.rs.blk (by decide)) (own_not_type hk1 T.rs.own (by decide))
  have hb9 := (hc.block v2 (Array.getElem?_eq_some_iff.1 T.bx).1 (not_mem_type hk1 T.bx (by decide))).trans T.bx
  have hc2 := hcD.mono (m := blkV b g h s (x.sc.row A c) ++ blkQ v2 b2 A2 X.C.length c2 s2 (y.sc.row A3 c3)) (fun z hz => List.mem_append.2 (.inr hz))
  exact T.doc hB hcD hv2 hs9 hb9 T.ge rfl (fun z hz => .inl hz) T.row (T.st.chg hc2 (fun z hz => .inl hz)) (fun r hr => (T.rows r hr).chg hc2 (fun z hz => .inl hz))
end
end
end Go.Proofs.Ytiggcpfmmgmncaa
