import Derived.Test.YtiggcpfmmgmncaaVp40
import Derived.Test.YtiggcpfmmgmncaaVp42
import Derived.Laws.IdiomStrings
import Derived.Lib.SlBytesConst
import Derived.Test.YtiggcpfmmgmncaaVp37
set_option maxHeartbeats 16000000
set_option maxRecDepth 100000
set_option linter.unusedVariables false
set_option linter.unusedSimpArgs false
namespace Go.Proofs.Ytiggcpfmmgmncaa
open Go.ChangeShapes Go.WideShapes Go.ChangeAt Go.RowKit
section
section
variable {B b g v h s kc c k b2 v2 s2 c2 kc2 c3 k2 : Nat} {w w' : World} {K A SA A2 KA A3 SA2 : Option Addr} {R R2 R3 : List (RowS Nat)} {d d' : Dv} {x x' : Vv} {X X' : Rv} {y y' : Vv}
theorem off8_of (h1 : DrA B w b g K kc d) (h2 : VaA B w v h s b A c R SA k x) (h3 : RvA B w b2 A2 c2 R2 KA kc2 X) (h4 : RsA B w s2 b2 A3 c3 R3 y.sc) (h5 : w.heap[v2]? = some (.cells (y.rcells b2 s2 SA2 k2) 91 (0, 0))) {B2 n cc : Nat} {AA : Option Addr} {xs : List Value} (ho : w.ownsRow B2 5 1 (.slice AA n cc) n xs) : SlX (blkV b g h s (x.sc.row A c) ++ blkQ v2 b2 A2 X.C.length c2 s2 (y.sc.row A3 c3)) w AA xs :=
  SlX.typed (P := fun T => T ≠ 5) ho (fun z hz => by
    rcases List.mem_append.1 hz with hz | hz
    · obtain ⟨cs, q, T, a, e⟩ := blkV_type h1 h2 z hz
      exact ⟨cs, q, T, a, by rcases e with e | e | e | e | e <;> rw [e] <;> decide⟩
    · obtain ⟨cs, q, T, a, e⟩ := blkQ_type h3 h4 h5 z hz
      exact ⟨cs, q, T, a, by rcases e with e | e | e | e <;> rw [e] <;> decide⟩) (fun h => h rfl)
theorem TwoV.ropen {each : Nat} (T : TwoV B w b g v b2 v2 d x X y) (hB : B ≤ w.heap.size) (h1 : 1 ≤ each) (h2 : 2 * each < X.C.length) (hnew : newestN X.C 0 X.C.length < 16777214) :
    Calls Try.prog 37 #[.pointer (some ⟨b2, 0, none⟩), .int .i64 each] w fun e w' => ∃ v', e = .returned (.tuple #[.pointer (some ⟨v', 0, none⟩), .int .i64 0]) ∧ TwoV B w' b g v b2 v' d x X (openV X.C each) ∧ Below B w w' ∧ Kp10 w w' := by
  obtain ⟨h, s, K, kc, A, c, R, SA, k, s2, A2, c2, R2, KA, kc2, A3, c3, R3, SA2, k2, T⟩ := T
  refine (ropen10_ok each w T.rv hB h1 h2 hnew).mono ?_
  rintro e w' ⟨⟨v', s', A', c', R', SA', k', rfl, hbx, hge, hs', hr', hst⟩, hb⟩
  have hs9 := hs'.base hB
  have hge2 : ∀ z ∈ s' :: ((openV X.C each).sc.row A' c').ownBlock.toList, w.heap.size ≤ z := fun z hz => by
    rcases List.mem_cons.1 hz with e | hz
    · rw [e]; exact hs'.ge
    · exact own_ge hs'.own z (Option.mem_def.1 (Option.mem_toList.1 hz))
  refine ⟨v', rfl, T.doc hB (ChgL.of_below hb) (T.rv.below hb) hs9 hbx (Nat.le_trans hB hge) rfl (fun z hz => ?_) (fun z hz e => ?_) (off8_of (T.dr.below hb) (T.va.below hb) (T.rv.below hb) hs9 hbx hst) (fun r hr => off8_of (T.dr.below hb) (T.va.below hb) (T.rv.below hb) hs9 hbx (hr' r hr))⟩
  · rcases List.mem_cons.1 hz with e | hz
    · exact .inr (by rw [e]; exact hge)
    rcases List.mem_append.1 hz with hz | hz
    · exact .inl (List.mem_cons_of_mem _ (List.mem_append.2 (.inl hz)))
    · exact .inr (hge2 z hz)
  · have h9 := hge2 z (List.mem_cons_of_mem _ (Option.mem_toList.2 (Option.mem_def.2 e)))
    have := blk_lt_of T.rv.row_blk z hz
    omega
theorem rcomp_len {y : Vv} {X : Rv} {l : List Nat} : (y.rcomp X l).1.2.C.length = X.C.length := by
  unfold Vv.rcomp
  split
  · rfl
  · split
    · rfl
    · split
      · exact Rv.save_len
      · exact Rv.save_len
theorem TwoV.rcomp {rA : Option Addr} {rc_ : Nat} {l : List Nat} (T : TwoV B w b g v b2 v2 d x X y) (hB : B ≤ w.heap.size) (hlc : l.length ≤ rc_) (hcm : rc_ ≤ maxLen) (hl : l.length ≤ 100000) (hrs : Sl w rA (by8 l)) (hin : ∀ k o, rA = some ⟨k, o, none⟩ → by8 l ≠ [] → k < B) (ho : Oct l) (hfu : X.fuse ≤ 9223372036854775807) (hfl : -9223372036854775807 ≤ X.fuse) (he : 1 ≤ y.each) (h2e : 2 * y.each ≤ X.C.length) (her0 : 0 ≤ y.era) (her : y.era + 1 ≤ 16777215) (hl1 : 1 ≤ y.life) (hnew : (X.save 0 y.each y.life (y.era + 1) l).2 = 0 → newestN (X.save 0 y.each y.life (y.era + 1) l).1.C (2 * y.each) ((X.save 0 y.each y.life (y.era + 1) l).1.C.length - 2 * y.each) < y.life + 1) :
    Calls Try.prog 41 #[.pointer (some ⟨v2, 0, none⟩), .slice rA l.length rc_] w fun e w' => e = .returned (.int .i64 (y.rcomp X l).2) ∧ TwoV B w' b g v b2 v2 d x (y.rcomp X l).1.2 (y.rcomp X l).1.1 ∧ Below B w w' ∧ Kp10 w w' := by
  obtain ⟨h, s, K, kc, A, c, R, SA, k, s2, A2, c2, R2, KA, kc2, A3, c3, R3, SA2, k2, T⟩ := T
  refine (rvcomp_any rA rc_ l w T.rv T.rs T.bx hB hlc hcm hl hrs ho hfu hfl he h2e her0 her T.row hl1 hnew).mono ?_
  rintro e w' ⟨rfl, R', s', A3', c3', R3', SA', k', hv', hs', hbx, hc, hways⟩
  have hcD : ChgL (blkQ v2 b2 A2 X.C.length c2 s2 (y.sc.row A3 c3)) w w' := hc.mono (fun z hz => by
    rcases List.mem_cons.1 hz with e | hz
    · rw [e]; exact List.mem_cons_self ..
    · exact List.mem_cons_of_mem _ (List.mem_append.2 (.inl hz)))
  have hcA : ChgL (blkV b g h s (x.sc.row A c) ++ blkQ v2 b2 A2 X.C.length c2 s2 (y.sc.row A3 c3)) w w' := hcD.mono (fun z hz => List.mem_append.2 (.inr hz))
  rcases hways with ⟨rfl, rfl, rfl, rfl, rfl, esc, est⟩ | ⟨hsn, hrn, rfl, est⟩
  · have hrow : ((y.rcomp X l).1.1.sc.row A3' c3') = (y.sc.row A3' c3') := by rw [esc]
    have hgrow : ∀ z ∈ blkV b g h s (x.sc.row A c) ++ blkQ v2 b2 A2 X.C.length c2 s' ((y.rcomp X l).1.1.sc.row A3' c3'), z ∈ blkV b g h s (x.sc.row A c) ++ blkQ v2 b2 A2 X.C.length c2 s' (y.sc.row A3' c3') ∨ w.heap.size ≤ z := fun z hz => .inl (by rw [hrow] at hz; exact hz)
    exact ⟨rfl, T.doc hB hcD hv' hs' hbx T.ge rcomp_len (fun z hz => .inl (by rw [hrow] at hz; exact hz)) (by rw [hrow]; exact T.row) (by rw [est]; exact T.st.chg hcA hgrow) (fun r hr => (T.rows r hr).chg hcA hgrow)⟩
  · have hge2 : ∀ z ∈ s' :: ((y.rcomp X l).1.1.sc.row A3' c3').ownBlock.toList, w.heap.size ≤ z := fun z hz => by
      rcases List.mem_cons.1 hz with e | hz
      · rw [e]; exact hsn.ge
      · exact own_ge hsn.own z (Option.mem_def.1 (Option.mem_toList.1 hz))
    have hgrow : ∀ z ∈ blkQ v2 b2 A2 X.C.length c2 s' ((y.rcomp X l).1.1.sc.row A3' c3'), z ∈ blkQ v2 b2 A2 X.C.length c2 s2 (y.sc.row A3 c3) ∨ w.heap.size ≤ z := fun z hz => by
      rcases List.mem_cons.1 hz with e | hz
      · exact .inl (by rw [e]; exact List.mem_cons_self ..)
      rcases List.mem_append.1 hz with hz | hz
      · exact .inl (List.mem_cons_of_mem _ (List.mem_append.2 (.inl hz)))
      · exact .inr (hge2 z hz)
    have htD := blkQ_type T.rv T.rs T.bx
    have hnotU : ∀ z ∈ blkQ v2 b2 A2 X.C.length c2 s2 (y.sc.row A3 c3), (x.sc.row A c).ownBlock ≠ some z := fun z hz he => T.ap z (by unfold blkV blk8; exact List.mem_cons_of_mem _ (List.mem_cons_of_mem _ (List.mem_cons_of_mem _ (List.mem_cons_of_mem _ (Option.mem_toList.2 (Option.mem_def.2 he)))))) hz
    have hd9 : DrA B w' b g K kc d := T.dr.far hcD htD (by decide) (by decide) (by decide)
    have hv9 : VaA B w' v h s b A c R SA k x := T.va.farL hcD htD (by decide) (by decide) (by decide) (by decide) hnotU
    refine ⟨rfl, T.doc hB hcD hv' hs' hbx T.ge rcomp_len hgrow (fun z hz e => ?_) ?_ (fun r hr => ?_)⟩
    · have h9 := hge2 z (List.mem_cons_of_mem _ (Option.mem_toList.2 (Option.mem_def.2 e)))
      have := blk_lt_of T.rv.row_blk z hz
      omega
    · rw [est]
      refine SlX.chg (l := blkV b g h s (x.sc.row A c) ++ blkQ v2 b2 A2 X.C.length c2 s2 (y.sc.row A3 c3)) ⟨hrs, fun p hp hne => ?_⟩ hcA (fun z hz => ?_)
      · obtain ⟨k, o, hA, _⟩ := hrs hne
        rw [hA] at hp
        injection hp with hp
        subst hp
        have hk := hin k o hA hne
        exact ⟨Nat.lt_of_lt_of_le hk hB, fun hm => by
          rcases List.mem_append.1 hm with hm | hm
          · exact absurd (T.vlt _ hm) (Nat.not_le.2 hk)
          · exact absurd (T.qlt _ hm) (Nat.not_le.2 hk)⟩
      · rcases List.mem_append.1 hz with hz | hz
        · exact .inl (List.mem_append.2 (.inl hz))
        · rcases hgrow z hz with h9 | h9
          · exact .inl (List.mem_append.2 (.inr h9))
          · exact .inr h9
    · have h9 := off8_of hd9 hv9 hv' hs' hbx (hrn r hr)
      rw [rcomp_len] at h9
      exact h9
end
def Two1V (B : Nat) (w : World) (b g v b2 : Nat) (d : Dv) (x : Vv) (X : Rv) : Prop :=
  ∃ (h s : Nat) (K : Option Addr) (kc : Nat) (A : Option Addr) (c : Nat) (R : List (RowS Nat)) (SA : Option Addr) (k : Nat) (A2 : Option Addr) (c2 : Nat) (R2 : List (RowS Nat)) (KA : Option Addr) (kc2 : Nat),
    DrA B w b g K kc d ∧ VaA B w v h s b A c R SA k x ∧ RvA B w b2 A2 c2 R2 KA kc2 X ∧ (∀ z ∈ blkV b g h s (x.sc.row A c), z ∉ blkR b2 A2 X.C.length c2)
section
variable {B b g v b2 v2 : Nat} {w w' : World} {d : Dv} {x y : Vv} {X : Rv}
theorem Two0.popen10 {each : Nat} (h : Two0 B w b g b2 d X) (hB : B ≤ w.heap.size) (h1 : 1 ≤ each) (h2 : 2 * each < d.S.length) (hnew : newestN d.S 0 d.S.length < 16777214) :
    Calls Try.prog 36 #[.pointer (some ⟨b, 0, none⟩), .int .i64 each] w fun e w' => ∃ v', e = .returned (.tuple #[.pointer (some ⟨v', 0, none⟩), .int .i64 0]) ∧ Two1V B w' b g v' b2 d (openV d.S each) X ∧ Below w.heap.size w w' := by
  obtain ⟨K, kc, A2, c2, R2, KA, kc2, h1', h3, h6⟩ := h
  refine (vopen_ok each w h1' hB h1 h2 hnew).mono ?_
  rintro e w' ⟨v', h', s', A', c', R', SA', k', rfl, hv', hb, hz1, hz2, hz3, hz4⟩
  refine ⟨v', rfl, ⟨h', s', K, kc, A', c', R', SA', k', A2, c2, R2, KA, kc2, h1'.below hb, hv', h3.below hb, fun z hz hq => ?_⟩, hb⟩
  have hlt := blk_lt_of h3.row_blk z hq
  unfold blkV blk8 at hz
  rcases List.mem_cons.1 hz with e | hz
  · omega
  rcases List.mem_cons.1 hz with e | hz
  · exact h6 z (by simp [e]) hq
  rcases List.mem_cons.1 hz with e | hz
  · exact h6 z (by simp [e]) hq
  rcases List.mem_cons.1 hz with e | hz
  · omega
  · have := hz4 z (Option.mem_def.1 (Option.mem_toList.1 hz)); omega
theorem Two1V.ropen10 {each : Nat} (h : Two1V B w b g v b2 d x X) (hB : B ≤ w.heap.size) (h1 : 1 ≤ each) (h2 : 2 * each < X.C.length) (hnew : newestN X.C 0 X.C.length < 16777214) :
    Calls Try.prog 37 #[.pointer (some ⟨b2, 0, none⟩), .int .i64 each] w fun e w' => ∃ v', e = .returned (.tuple #[.pointer (some ⟨v', 0, none⟩), .int .i64 0]) ∧ TwoV B w' b g v b2 v' d x X (openV X.C each) ∧ Below w.heap.size w w' := by
  obtain ⟨h, s, K, kc, A, c, R, SA, k, A2, c2, R2, KA, kc2, q1, q2, q3, q6⟩ := h
  refine (ropen10_ok each w q3 hB h1 h2 hnew).mono ?_
  rintro e w' ⟨⟨v', s', A', c', R', SA', k', rfl, hbx, hge, hs', hr', hst⟩, hb⟩
  have hs9 := hs'.base hB
  have hge2 : ∀ z ∈ s' :: ((openV X.C each).sc.row A' c').ownBlock.toList, w.heap.size ≤ z := fun z hz => by
    rcases List.mem_cons.1 hz with e | hz
    · rw [e]; exact hs'.ge
    · exact own_ge hs'.own z (Option.mem_def.1 (Option.mem_toList.1 hz))
  have hVlt := blk_lt_of (blkV_type q1 q2)
  refine ⟨v', rfl, ⟨h, s, K, kc, A, c, R, SA, k, s', A2, c2, R2, KA, kc2, A', c', R', SA', k', ⟨q1.below hb, q2.below hb, q3.below hb, hs9, hbx, Nat.le_trans hB hge, off8_of (q1.below hb) (q2.below hb) (q3.below hb) hs9 hbx hst, fun r hr => off8_of (q1.below hb) (q2.below hb) (q3.below hb) hs9 hbx (hr' r hr), fun z hz hq => ?_, fun z hz e => ?_⟩⟩, hb⟩
  · have hzl := hVlt z hz
    rcases List.mem_cons.1 hq with e | hq
    · omega
    rcases List.mem_append.1 hq with hq | hq
    · exact q6 z hz hq
    · have := hge2 z hq; omega
  · have h9 := hge2 z (List.mem_cons_of_mem _ (Option.mem_toList.2 (Option.mem_def.2 e)))
    have := blk_lt_of q3.row_blk z hz
    omega
theorem TwoV.rbox (T : TwoV B w b g v b2 v2 d x X y) : w.cell? ⟨b2, 1, none⟩ = some (.bool X.off) ∧ w.cell? ⟨b2, 2, none⟩ = some (.int .i64 X.fuse) ∧ w.frozen? ⟨b2, 1, none⟩ = false ∧ w.frozen? ⟨b2, 2, none⟩ = false ∧ b2 < w.heap.size ∧ w.cell? ⟨v2, 3, none⟩ = some (.int .i64 y.era) ∧ v2 < w.heap.size := by
  obtain ⟨h, s, K, kc, A, c, R, SA, k, s2, A2, c2, R2, KA, kc2, A3, c3, R3, SA2, k2, T⟩ := T
  obtain ⟨p0, p1, p2, p3, p4, ps⟩ := T.rv.got
  exact ⟨p1, p2, T.rv.fz 1, T.rv.fz 2, ps, (box_cells' T.bx 3).1, (box_cells' T.bx 0).2.2⟩
theorem TwoV.pera (T : TwoV B w b g v b2 v2 d x X y) : Calls Try.prog 42 #[.pointer (some ⟨v, 0, none⟩)] w fun e w' => e = .returned (.int .i64 x.era) ∧ w' = w := by
  obtain ⟨h, s, K, kc, A, c, R, SA, k, s2, A2, c2, R2, KA, kc2, A3, c3, R3, SA2, k2, T⟩ := T
  exact vera_eq w T.va
end
theorem vopen_few {B b g kc : Nat} {K : Option Addr} {d : Dv} (each : Int) (w : World) (hd : DrA B w b g K kc d) (hew : -9223372036854775808 ≤ each ∧ each ≤ 9223372036854775807) (hbad : each < 1 ∨ (d.S.length : Int) ≤ 2 * each) :
    Calls Try.prog 36 #[.pointer (some ⟨b, 0, none⟩), .int .i64 each] w fun e w' => e = .returned (.tuple #[.pointer none, .int .i64 2]) ∧ Below w.heap.size w w' := by
  have HSZ := Lib.hid (dsize_eq w hd)
  have hlen := hd.len
  obtain ⟨n, hn⟩ : ∃ n, d.S.length = n := ⟨_, rfl⟩
  rw [hn] at HSZ hlen hbad
  have hn0 : ((n : Int) == 0) = false := by simp; omega
  have hw : IntKind.i64.wrap ((n : Int) - 1) = (n : Int) - 1 := by rw [IntKind.wrap_i64]; omega
  have hdv : ((n : Int) - 1).tdiv 2 = ((n : Int) - 1) / 2 := Int.tdiv_eq_ediv_of_nonneg (by omega)
  have hwd : IntKind.i64.wrap (((n : Int) - 1) / 2) = ((n : Int) - 1) / 2 := by rw [IntKind.wrap_i64]; omega
  by_cases c1 : each < 1
  · have d1 : decide (each < 1) = true := decide_eq_true c1
    clear hd hew hlen hn hbad
    go_enter Try.func36, Try.ntmps36
    go_wp2_with fail
    refine HSZ.out.mono ?_
    rintro e w1 ⟨rfl, rfl⟩
    go_wp2_with fail
    go_ret2
    exact ⟨rfl, Below.refl _ _⟩
  · have d1 : decide (each < 1) = false := decide_eq_false c1
    have c2 : ((n : Int) - 1) / 2 < each := by omega
    have d2 : decide (((n : Int) - 1) / 2 < each) = true := decide_eq_true c2
    clear hd hew hlen hn hbad
    go_enter Try.func36, Try.ntmps36
    go_wp2_with fail
    refine HSZ.out.mono ?_
    rintro e w1 ⟨rfl, rfl⟩
    go_wp2_with fail
    go_ret2
    exact ⟨rfl, Below.refl _ _⟩
end
section
def NobV (w : World) (p : Option Addr) : Prop := p = none ∨ ∃ s, p = some ⟨s, 0, none⟩ ∧ w.heap[s]? = some (.cells #[.pointer none] 99 (0, 0))
theorem NobV.below {w w' : World} {p : Option Addr} (h : NobV w p) (hb : Below w.heap.size w w') : NobV w' p := by
  rcases h with h | ⟨b, h1, h2⟩
  · exact .inl h
  · exact .inr ⟨b, h1, by rw [hb.block b (Array.getElem?_eq_some_iff.1 h2).1]; exact h2⟩
def lvA : (Vv × Dv) × Int := (openV (Dv.new 12).S 3).app (Dv.new 12) [97]
def lvC : (Vv × Dv) × Int := lvA.1.1.compact lvA.1.2 [115]
def lvB : (Vv × Dv) × Int := lvC.1.1.app lvC.1.2 [98]
theorem lv10_0 : newestN (Dv.new 12).S 0 12 < 16777214 ∧ (openV (Dv.new 12).S 3).sc.t ≤ 12 ∧ (openV (Dv.new 12).S 3).sc.L.length ≤ 900000 := by decide +kernel
theorem lv10_a : lvA.2 = 0 ∧ lvA.1.2.S.length = 12 ∧ lvA.1.1.each = 3 ∧ lvA.1.1.era = 0 := by decide +kernel
theorem lv10_n : newestN (lvA.1.2.save 0 lvA.1.1.each lvA.1.1.life (lvA.1.1.era + 1) [115]).1.S (2 * lvA.1.1.each) ((lvA.1.2.save 0 lvA.1.1.each lvA.1.1.life (lvA.1.1.era + 1) [115]).1.S.length - 2 * lvA.1.1.each) < lvA.1.1.life + 1 := by decide +kernel
theorem lv10_c : lvC.2 = 0 ∧ lvC.1.2.S.length = 12 ∧ lvC.1.1.sc.t ≤ 12 ∧ lvC.1.1.sc.L.length ≤ 900000 := by decide +kernel
theorem lv10_b : lvB.2 = 0 ∧ lvB.1.2.S.length = 12 ∧ newestN lvB.1.2.S 0 12 < 16777214 := by decide +kernel
theorem lv10_o : (openV lvB.1.2.S 3).era = 1 ∧ (openV lvB.1.2.S 3).state = [115] ∧ (openV lvB.1.2.S 3).sc.L = [[98]] := by decide +kernel
theorem str_back (w : World) (b c : Nat) (h : w.cell? ⟨b, 0, none⟩ = some (.int .u8 115)) : (convert 36 9 (.slice (some ⟨b, 0, none⟩) 1 c)).run Try.prog w = .ok (.string ⟨#[115]⟩) w :=
  run_convert_bytes_back (P := Try.prog) w 36 9 5 ⟨b, 0, none⟩ c [115] ED8.und (by kernel_rfl) (by kernel_rfl) (fun j hj => by
    obtain rfl : j = 0 := by simpa using hj
    exact h)
theorem lives10_any (w : World) :
    Calls Try.prog 44 #[] w fun e w' => e = .returned (.bool true) ∧ Below w.heap.size w w' := by
  have HN := Lib.hid (dnew_any 12 w (by decide) (by decide))
  have kc := fun (w : World) (C : Array Value) (n c : Nat) => Lib.run_convert_bytes_const (P := Try.prog) w 36 5 C n c Try.underlying36 Try.underlying5
  go_enter Try.func44, Try.ntmps44
  go_wp2_with fail
  refine HN.out.mono ?_
  rintro e w1 ⟨b, g, rfl, ⟨K, kc2, hd1⟩, hb1⟩
  have HO := Lib.hid (vopen_ok 3 w1 hd1 hb1.size (by decide) (by decide) lv10_0.1)
  have HD1 := Lib.hid hd1
  have HB1 := Lib.hid hb1
  clear hd1 hb1
  go_wp2_with fail
  refine HO.out.mono ?_
  rintro e w2 ⟨v, h2, s2, A2, c2, R2, SA2, k2, rfl, hv2, hb2, _⟩
  have HB2 := Lib.hid (since_step HB1.out hb2)
  have HD2 := Lib.hid (HD1.out.below hb2)
  have HV2 := Lib.hid hv2
  clear hv2 hb2
  have hlb2 : Below w2.heap.size w2 (w2.alloc (.cells #[.int .u8 97] 5 (1, 2))) := since_alloc (Below.refl _ _) _
  have hsl : SlF (w2.alloc (.cells #[.int .u8 97] 5 (1, 2))) b g (some ⟨w2.heap.size, 0, none⟩) (by8 [97]) := ⟨Sl.newMark w2 [.int .u8 97] 5 (1, 2), fun _ p hp => by cases hp; have := HD2.out.lt; exact ⟨fun h => by simp at h; omega, fun h => by simp at h; omega⟩⟩
  have ha := vapp_any (some ⟨w2.heap.size, 0, none⟩) 1 [97] (w2.alloc (.cells #[.int .u8 97] 5 (1, 2))) (HV2.out.below hlb2) (HD2.out.below hlb2) (since_alloc HB2.out _).size (by decide) (by decide) (by decide) hsl (by intro x hx; simp at hx; omega) (by exact lv10_0.2.1) (by exact lv10_0.2.2)
  rw [show (openV (Dv.new 12).S 3).app (Dv.new 12) [97] = lvA from rfl, lv10_a.1] at ha
  have HAP := Lib.hid ha
  have HGE : Hid (∀ y ∈ blkV b g h2 s2 ((openV (Dv.new 12).S 3).sc.row A2 c2), w.heap.size ≤ y) := Lib.hid (fun y hy => by
    rcases List.mem_cons.1 hy with e | hy
    · rw [e]; exact HV2.out.ge.2
    · exact blk8_ge HD2.out HV2.out.sc y hy)
  have HBL := Lib.hid (since_alloc HB2.out (.cells #[.int .u8 97] 5 (1, 2)))
  clear ha hsl hlb2
  go_wp2_with fail
  refine HAP.out.mono ?_
  rintro e w3 ⟨rfl, s3, A3, c3, R3, SA3, k3, hv, hd, hc, _⟩
  have HB3 := Lib.hid (HBL.out.trans (hc.below HBL.out.size HGE.out))
  have HV3 := Lib.hid hv
  have HD3 := Lib.hid hd
  clear hv hd hc HAP HGE HBL
  have hlb3 : Below w3.heap.size w3 (w3.alloc (.cells #[.int .u8 115] 5 (1, 2))) := since_alloc (Below.refl _ _) _
  have hsl : SlF (w3.alloc (.cells #[.int .u8 115] 5 (1, 2))) b g (some ⟨w3.heap.size, 0, none⟩) (by8 [115]) := ⟨Sl.newMark w3 [.int .u8 115] 5 (1, 2), fun _ p hp => by cases hp; have := HD3.out.lt; exact ⟨fun h => by simp at h; omega, fun h => by simp at h; omega⟩⟩
  have ha := vcompact_any (some ⟨w3.heap.size, 0, none⟩) 1 [115] (w3.alloc (.cells #[.int .u8 115] 5 (1, 2))) (HV3.out.below hlb3) (HD3.out.below hlb3) (since_alloc HB3.out _).size (by decide) (by decide) (by decide) hsl (by intro x hx; simp at hx; omega) (by rw [lv10_a.2.2.1]; decide) (by rw [lv10_a.2.2.1, lv10_a.2.1]; decide) (by rw [lv10_a.2.2.2]; decide) (fun _ => lv10_n)
  rw [show lvA.1.1.compact lvA.1.2 [115] = lvC from rfl, lv10_c.1] at ha
  have HAP := Lib.hid ha
  have HGE : Hid (∀ y ∈ blkV b g h2 s3 ((lvA.1.1).sc.row A3 c3), w.heap.size ≤ y) := Lib.hid (fun y hy => by
    rcases List.mem_cons.1 hy with e | hy
    · rw [e]; exact HV3.out.ge.2
    · exact blk8_ge HD3.out HV3.out.sc y hy)
  have HBL := Lib.hid (since_alloc HB3.out (.cells #[.int .u8 115] 5 (1, 2)))
  clear ha hsl hlb3
  go_wp2_with fail
  refine HAP.out.mono ?_
  rintro e w4 ⟨rfl, s4, A4, c4, R4, SA4, k4, hv, hd, hc, _⟩
  have HB4 := Lib.hid (HBL.out.trans (hc.below HBL.out.size HGE.out))
  have HV4 := Lib.hid hv
  have HD4 := Lib.hid hd
  clear hv hd hc HAP HGE HBL
  have hlb4 : Below w4.heap.size w4 (w4.alloc (.cells #[.int .u8 98] 5 (1, 2))) := since_alloc (Below.refl _ _) _
  have hsl : SlF (w4.alloc (.cells #[.int .u8 98] 5 (1, 2))) b g (some ⟨w4.heap.size, 0, none⟩) (by8 [98]) := ⟨Sl.newMark w4 [.int .u8 98] 5 (1, 2), fun _ p hp => by cases hp; have := HD4.out.lt; exact ⟨fun h => by simp at h; omega, fun h => by simp at h; omega⟩⟩
  have ha := vapp_any (some ⟨w4.heap.size, 0, none⟩) 1 [98] (w4.alloc (.cells #[.int .u8 98] 5 (1, 2))) (HV4.out.below hlb4) (HD4.out.below hlb4) (since_alloc HB4.out _).size (by decide) (by decide) (by decide) hsl (by intro x hx; simp at hx; omega) (by rw [lv10_c.2.1]; exact lv10_c.2.2.1) lv10_c.2.2.2
  rw [show lvC.1.1.app lvC.1.2 [98] = lvB from rfl, lv10_b.1] at ha
  have HAP := Lib.hid ha
  have HGE : Hid (∀ y ∈ blkV b g h2 s4 ((lvC.1.1).sc.row A4 c4), w.heap.size ≤ y) := Lib.hid (fun y hy => by
    rcases List.mem_cons.1 hy with e | hy
    · rw [e]; exact HV4.out.ge.2
    · exact blk8_ge HD4.out HV4.out.sc y hy)
  have HBL := Lib.hid (since_alloc HB4.out (.cells #[.int .u8 98] 5 (1, 2)))
  clear ha hsl hlb4
  go_wp2_with fail
  refine HAP.out.mono ?_
  rintro e w5 ⟨rfl, s5, A5, c5, R5, SA5, k5, hv, hd, hc, _⟩
  have HB5 := Lib.hid (HBL.out.trans (hc.below HBL.out.size HGE.out))
  have HV5 := Lib.hid hv
  have HD5 := Lib.hid hd
  clear hv hd hc HAP HGE HBL
  have HO2 := Lib.hid (vopen_ok 3 w5 HD5.out HB5.out.size (by decide) (by rw [lv10_b.2.1]; decide) (by rw [lv10_b.2.1]; exact lv10_b.2.2))
  go_wp2_with fail
  refine HO2.out.mono ?_
  rintro e w6 ⟨v6, h6, s6, A6, c6, R6, SA6, k6, rfl, hv6, hb6, _⟩
  have HB6 := Lib.hid (since_step HB5.out hb6)
  have HV6 := Lib.hid hv6
  clear hv6 hb6
  have hst := vstate_any w6 HV6.out
  rw [if_neg (by rw [lv10_o.1]; decide), decide_eq_false (by rw [lv10_o.1]; decide), lv10_o.2.1] at hst
  have HST := Lib.hid hst
  clear hst
  go_wp2_with fail
  refine HST.out.mono ?_
  rintro e w7 ⟨⟨A7, c7, rfl, own7⟩, hb7⟩
  have HB7 := Lib.hid (since_step HB6.out hb7)
  have HV7 := Lib.hid (HV6.out.below hb7)
  obtain ⟨b7, o7, rfl, h7c⟩ := Sl.of_own own7 (by simp [by8])
  have h7 := h7c 0 _ rfl
  obtain rfl : o7 = 0 := by
    rcases own7.2 with ⟨hv1, _⟩ | ⟨n, cap, cur, hv1, _⟩
    · injection hv1 with hv1; cases hv1
    · injection hv1 with hv1
      injection hv1 with hv1
      injection hv1
  have hsb := fun W (hW : Below w7.heap.size w7 W) => str_back W b7 c7 (by
    rw [hW.cell (p := ⟨b7, 0, none⟩) (World.block_lt_of_cell? _ _ h7)]
    exact h7)
  have hsb7 := hsb w7 (Below.refl _ _)
  have hR7 : ∀ r ∈ R6, r.l.length ≤ 100000 := fun r hr => by
    have h : r.l ∈ R6.map RowS.l := List.mem_map.2 ⟨r, hr, rfl⟩
    rw [HV7.out.sc.map, lv10_o.2.2] at h
    have h : r.l = [98] := by simpa using h
    rw [h]; decide
  have HRC := Lib.hid (vrecords_any w7 HV7.out hR7)
  clear own7 hb7 hR7 h7c h7 hsb HST
  go_wp2_with fail
  refine HRC.out.mono ?_
  rintro e w8 ⟨⟨A8, c8, S8, rfl, own8, map8, rows8⟩, hb8⟩
  rw [lv10_o.2.2] at map8
  have HB8 := Lib.hid (since_step HB7.out hb8)
  have hl8 : S8.length = 1 := by have h := congrArg List.length map8; simpa using h
  have hbz : Below w8.heap.size w8 ((w8.alloc (.cells #[.int .u8 98] 5 (1, 2))).alloc (.cells #[.slice (some ⟨w8.heap.size, 0, none⟩) 1 1] 36)) := since_alloc (since_alloc (Below.refl _ _) _) _
  have hsame := rsame8_any A8 (some ⟨w8.heap.size + 1, 0, none⟩) c8 1 S8 [(⟨some ⟨w8.heap.size, 0, none⟩, 1, [98]⟩ : RowS Nat)] _ (by omega) (show 1 ≤ 1000000 by decide) (Sl.of_own (own_below own8 hbz)) (by
      have h := Sl.new_ (w8.alloc (.cells #[.int .u8 98] 5 (1, 2))) [.slice (some ⟨w8.heap.size, 0, none⟩) 1 1] 36
      rw [World.size_alloc] at h
      exact h)
    (fun r hr => ⟨Sl.of_own (own_below (rows8 r hr) hbz), by
      have h : r.l ∈ S8.map RowS.l := List.mem_map.2 ⟨r, hr, rfl⟩
      rw [map8] at h
      have h : r.l = [98] := by simpa using h
      rw [h]; decide⟩)
    (fun r hr => by
      obtain rfl : r = ⟨some ⟨w8.heap.size, 0, none⟩, 1, [98]⟩ := by simpa using hr
      exact ⟨(Sl.newMark w8 [.int .u8 98] 5 (1, 2)).below (since_alloc (Below.refl _ _) _), show 1 ≤ 1000000 by decide⟩)
  change Calls _ _ #[.slice A8 S8.length c8, .slice (some ⟨w8.heap.size + 1, 0, none⟩) 1 1] _ _ at hsame
  rw [show decide (S8.map RowS.l = [(⟨some ⟨w8.heap.size, 0, none⟩, 1, [98]⟩ : RowS Nat)].map RowS.l) = true by rw [map8]; rfl] at hsame
  have HSAME := Lib.hid hsame
  have HV8 := Lib.hid ((HV7.out.below hb8).below hbz)
  have HB9 := Lib.hid (since_step HB8.out hbz)
  clear hsame hbz own8 rows8 hb8 map8 hl8 HRC
  go_wp2_with fail
  refine HSAME.out.mono ?_
  rintro e w9 ⟨rfl, hb9⟩
  have her := vera_eq w9 (HV8.out.below hb9)
  rw [lv10_o.1] at her
  have HER := Lib.hid her
  have HB10 := Lib.hid (since_step HB9.out hb9)
  clear her hb9
  go_wp2_with fail
  refine HER.out.mono ?_
  rintro e w10 ⟨rfl, rfl⟩
  go_wp2_with fail
  go_ret
  exact ⟨rfl, HB10.out⟩
end
end Go.Proofs.Ytiggcpfmmgmncaa
