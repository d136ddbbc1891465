import Derived.Test.YtiggcpfmmgmncaaVp19
import Derived.Test.YtiggcpfmmgmncaaVp17
set_option maxHeartbeats 16000000
set_option maxRecDepth 100000
set_option linter.unusedVariables false
set_option linter.unusedSimpArgs false
namespace Go.Proofs.Ytiggcpfmmgmncaa
open Go.ChangeShapes Go.WideShapes Go.ChangeAt Go.RowKit
section
theorem sopen_new {B b g kc : Nat} {K : Option Addr} {d : Dv} (f t : Nat) (life era : Int) (w : World) (h : DrA B w b g K kc d) (hB : B ≤ w.heap.size) (hft : f ≤ t) (ht : t ≤ d.S.length) (hl1 : 1 ≤ life) (hl2 : life ≤ 16777215) (he1 : 0 ≤ era) (he2 : era ≤ 16777215) (hnew : newestN d.S f (t - f) < life) :
    Calls Try.prog 15 #[.pointer (some ⟨b, 0, none⟩), .int .i64 f, .int .i64 t, .int .i64 life, .int .i64 era] w fun e w' => ∃ s A' c' R', e = .returned (.tuple #[.pointer (some ⟨s, 0, none⟩), .int .i64 0]) ∧ ScA B w' s b A' c' R' ⟨f, t, life, era, (scan d.S t era f 0 0).1, (scan d.S t era f 0 0).2 - f, false⟩ ∧ Below w.heap.size w w' ∧ w.heap.size ≤ s ∧ (∀ k, (Sc.row ⟨f, t, life, era, (scan d.S t era f 0 0).1, (scan d.S t era f 0 0).2 - f, false⟩ A' c').ownBlock = some k → w.heap.size ≤ k) := by
  have HS := Lib.hid (dsize_eq w h)
  have hn0 : (((d.S.length : Nat) : Int) == 0) = false := by have := h.len.1; simpa using (by omega : ((d.S.length : Nat) : Int) ≠ 0)
  have hsl := h.len.2
  have HFIT := Lib.hid (fun V (hV : Below w.heap.size w V) => pfit_any (f : Int) (t : Int) V (h.below hV))
  rw [show fitP d.S.length (f : Int) (t : Int) = true by unfold fitP; rw [decide_eq_true (by omega), decide_eq_true (by omega), decide_eq_true (by omega)]; rfl] at HFIT
  have HNEW := Lib.hid (fun V (hV : Below w.heap.size w V) => pnewest_any f t V (h.below hV) hft ht)
  have HD := Lib.hid (fun V (hV : Below w.heap.size w V) => h.below hV)
  have HT := Lib.hid ht
  have HBB := Lib.hid hB
  have HFT := Lib.hid (show f ≤ 2048 ∧ t ≤ 2048 by omega)
  obtain ⟨nw, hnw⟩ : ∃ nw, newestN d.S f (t - f) = nw := ⟨_, rfl⟩
  rw [hnw] at HNEW hnew
  have c1 : ¬ life < 1 := by omega
  have c2 : ¬ 16777215 < life := by omega
  have c3 : ¬ life ≤ nw := by omega
  have c4 : ¬ era < 0 := by omega
  have c5 : ¬ 16777215 < era := by omega
  have d1 : decide (life < 1) = false := decide_eq_false c1
  have d2 : decide (16777215 < life) = false := decide_eq_false c2
  have d3 : decide (life ≤ nw) = false := decide_eq_false c3
  have d4 : decide (era < 0) = false := decide_eq_false c4
  have d5 : decide (16777215 < era) = false := decide_eq_false c5
  obtain ⟨n, hn⟩ : ∃ n, d.S.length = n := ⟨_, rfl⟩
  rw [hn] at HS hn0 hsl
  try rw [hn] at HFIT
  clear hn h hB hft ht hnw hl1 hl2 he1 he2 hnew
  go_enter Try.func15, Try.ntmps15
  go_wp2_with fail
  refine HS.out.mono ?_
  rintro e w1 ⟨rfl, rfl⟩
  go_wp2_with fail
  have hs0 : ScA B (w1.alloc (.cells #[.pointer (some ⟨b, 0, none⟩), .int .i64 f, .int .i64 t, .int .i64 life, .int .i64 era, .slice none 0 0, .int .i64 0, .bool false] 66)) w1.heap.size b none 0 [] ⟨f, t, life, era, [], 0, false⟩ := by
    refine ⟨?_, own_nil _ _ _, (fun s hs => by cases hs), rfl, HBB.out, HFT.out.1, HFT.out.2, Nat.zero_le _, Nat.zero_le _⟩
    rw [heap_alloc_new]
    simp [Sc.cells]
  have hB0 : Below w1.heap.size w1 (w1.alloc (.cells #[.pointer (some ⟨b, 0, none⟩), .int .i64 f, .int .i64 t, .int .i64 life, .int .i64 era, .slice none 0 0, .int .i64 0, .bool false] 66)) := since_alloc (Below.refl _ _) _
  have HS0 := Lib.hid hs0
  have HB0 := Lib.hid hB0
  clear hs0 hB0
  refine (HFIT.out _ HB0.out).mono ?_
  rintro e w2 ⟨rfl, hb2⟩
  have HS2 := Lib.hid (HS0.out.below hb2)
  have HB2 := Lib.hid (since_step HB0.out hb2)
  obtain ⟨p0, p1, p2, p3, p4, p5, p6, p7⟩ := HS2.out.got
  have ps := HS2.out.lt
  simp only at p0 p1 p2 p3 p4 p5 p6 p7
  clear hb2
  go_wp2_with fail
  refine (HNEW.out _ HB2.out).mono ?_
  rintro e w3 ⟨rfl, hb3⟩
  have HS3 := Lib.hid (HS2.out.below hb3)
  have HB3 := Lib.hid (since_step HB2.out hb3)
  clear hb3 p0 p1 p2 p3 p4 p5 p6 p7 ps
  have hr := sread_any w3 (HD.out _ HB3.out) HS3.out (Nat.le_trans HBB.out HB3.out.size) HT.out (by have := HFT.out; show f + 0 ≤ 2048; omega) (Nat.zero_le _)
  simp only [List.nil_append, Nat.add_zero, List.length_nil] at hr
  have HR := Lib.hid hr
  clear hr
  go_wp2_with fail
  refine HR.out.mono ?_
  rintro e w4 ⟨rfl, A4, c4', R4, hs4, hc4, hr4⟩
  have hr5 : ∀ k, (Sc.row ⟨f, t, life, era, (scan d.S t era f 0 0).1, (scan d.S t era f 0 0).2 - f, false⟩ A4 c4').ownBlock = some k → w1.heap.size ≤ k := fun k hk => by
    rcases hr4 with h1 | ⟨k2, h1, h2⟩
    · rw [h1] at hk; simp [Sc.row, Value.ownBlock] at hk
    · rw [h2] at hk; injection hk with hk; subst hk; exact Nat.le_trans HB3.out.size h1
  have HR5 := Lib.hid hr5
  have HB4 := HB3.out.trans (hc4.below HB3.out.size (fun y hy => by
    rcases List.mem_cons.1 hy with e | e
    · rw [e]; exact Nat.le_refl _
    · simp [Sc.row, Value.ownBlock] at e))
  have HS4 := Lib.hid hs4
  clear hs4 hc4 hr4 hr5
  go_wp2_with fail
  go_ret2
  exact ⟨w1.heap.size, A4, c4', R4, rfl, HS4.out, HB4, Nat.le_refl _, HR5.out⟩
end
section
theorem srecords_any {B s b c : Nat} {A : Option Addr} {R : List (RowS Nat)} {x : Sc} (w : World) (h : ScA B w s b A c R x) (hl : ∀ r ∈ R, r.l.length ≤ 100000) :
    Calls Try.prog 27 #[.pointer (some ⟨s, 0, none⟩)] w fun e w' => (∃ (A' : Option Addr) (c' : Nat) (S : List (RowS Nat)), e = .returned (.slice A' S.length c') ∧ w'.ownsRow w.heap.size 36 1 (.slice A' S.length c') S.length (rc RowS.cells S) ∧ S.map RowS.l = x.L ∧ OwnR w.heap.size w' S) ∧ Below w.heap.size w w' := by
  have HSC := Lib.hid (fun V (hV : Below w.heap.size w V) => (show V.cell? ⟨s, 5, none⟩ = some (.slice A x.L.length c) ∧ s < V.heap.size from by
    have h := h.below hV
    obtain ⟨k0, k1, k2, k3, k4, k5, k6, k7⟩ := h.got
    exact ⟨k5, h.lt⟩))
  have hLR : x.L.length = R.length := by rw [← h.map, List.length_map]
  have hsm := h.small.2.2.2
  rw [hLR] at HSC hsm
  have HSL := Lib.hid (fun V (hV : Below w.heap.size w V) => Sl.of_own (own_below h.own hV))
  have HRW := Lib.hid (fun V (hV : Below w.heap.size w V) k (hk : k < R.length) => Sl.of_own (own_below (h.rows R[k] (List.getElem_mem hk)) hV))
  have HLL := Lib.hid (fun k (hk : k < R.length) => hl R[k] (List.getElem_mem hk))
  have HMAP := Lib.hid h.map
  have HSM := Lib.hid hsm
  obtain ⟨p5, ps⟩ := HSC.out _ (Below.refl _ w)
  clear h hl hLR hsm
  go_enter Try.func27, Try.ntmps27
  go_wp2_with (first
    | (at_make; refine wpList_mk rfl (.const (.int .i64 0)) (.tmp 12) rfl EDR R.length rfl rfl rfl (by have := HSM.out; omega) (by unfold maxLen; have := HSM.out; omega) (Nat.le_refl _) ?_; intro w1 own1 hb1; obtain ⟨p5, ps⟩ := HSC.out _ hb1)
    | fail)
  clear p5 ps
  have HB1 := Lib.hid hb1
  have HO1 := Lib.hid own1
  clear hb1 own1
  go_loopw [3, 19] (fun bv iv wr => ∃ (k : Nat) (A2 : Option Addr) (c2 : Nat) (S2 : List (RowS Nat)), k ≤ R.length ∧ S2.length = k ∧ bv = .slice A2 S2.length c2 ∧ iv = .int .i64 k ∧ Hid (wr.ownsRow w.heap.size 36 1 (.slice A2 S2.length c2) S2.length (rc RowS.cells S2)) ∧ Hid (S2.map RowS.l = (R.map RowS.l).take k) ∧ Hid (OwnR w.heap.size wr S2) ∧ Below w.heap.size w wr) (fun _ iv _ => R.length - (intOf iv).toNat)
  case atStart => exact ⟨0, some ⟨w.heap.size, 0, none⟩, R.length, [], Nat.zero_le _, rfl, rfl, rfl, HO1.out, rfl, (fun s hs => by cases hs), HB1.out⟩
  case round =>
    obtain ⟨k, A2, c2, S2, hk, hSk, rfl, rfl, HOWN, HMP, HOW, hB⟩ := hrel
    rw [hSk] at HOWN ⊢
    have HSK := Lib.hid hSk
    clear hSk
    by_cases hlt : k < R.length
    · have HLT := Lib.hid hlt
      have hRb : R.length ≤ 1000000 := HSM.out
      have hlk : (k : Int) < (R.length : Int) := by omega
      have hgk : (0 : Int) ≤ (k : Int) := by omega
      obtain ⟨bb, oo, hA, hbw, hg⟩ := (HSL.out _ hB).rowS hlt
      subst hA
      have hrs := HRW.out _ hB k hlt
      have hrl := HLL.out k hlt
      have HRE : Hid ((R.map RowS.l).take (k + 1) = (R.map RowS.l).take k ++ [(R[k]'hlt).l]) := Lib.hid (by rw [List.take_succ_eq_append_getElem (by simpa using hlt)]; simp)
      obtain ⟨r, hrr⟩ : ∃ r, R[k]'hlt = r := ⟨_, rfl⟩
      rw [hrr] at hg hrs hrl HRE
      clear hrr
      have HCL := Lib.hid (clone8_any r.A r.c r.l wr (by omega) hrs)
      clear hrs hrl
      go_wp2_with fail
      refine HCL.out.mono ?_
      rintro e w3 ⟨⟨A3, c3, rfl, own3⟩, hb3⟩
      have hB3 := since_step hB hb3
      have HO3 := Lib.hid (own_base own3 hB.size)
      have HOWN3 := Lib.hid (own_below HOWN.out hb3)
      have HOW3 : Hid (OwnR w.heap.size w3 S2) := Lib.hid (HOW.out.below hb3)
      have hsz3 : w.heap.size ≤ w3.heap.size := hB3.size
      clear own3 hb3 HCL hg
      go_wp2_with (first
        | (at_builtin; refine wpList_app rfl (.tmp 23) (.tmp 26) rfl EDR rfl rfl (HOWN3.out.alloc _) (m := 1) (news := [.slice A3 r.l.length c3]) rfl (Sl.new_ _ _ _) (fun u hu => by simp only [List.mem_cons, List.not_mem_nil, or_false] at hu; subst hu; rfl) (by unfold maxLen; have := HSM.out; omega) (by have := HSM.out; omega) (by simp only [World.size_alloc]; omega) ?_; intro A5 c5 w5 own5 hg5 hb5)
        | fail)
      have hB5 := (hB3.alloc hsz3 (.cells #[.slice A3 r.l.length c3] 36)).trans hb5
      have HOW5 : Hid (OwnR w.heap.size w5 (S2 ++ [(⟨A3, c3, r.l⟩ : RowS Nat)])) := Lib.hid (fun s hs => by
        have key : ∀ (v : Value) (n : Nat) (xs : List Value), w3.ownsRow w.heap.size 5 1 v n xs → w5.ownsRow w.heap.size 5 1 v n xs := fun v n xs h => own_kept_types (by decide) (h.alloc _) (HOWN3.out.alloc _) hg5
        rcases List.mem_append.1 hs with h | h
        · exact key _ _ _ (HOW3.out s h)
        · rw [List.mem_singleton] at h
          subst h
          exact key _ _ _ HO3.out)
      have HMP5 : Hid ((S2 ++ [(⟨A3, c3, r.l⟩ : RowS Nat)]).map RowS.l = (R.map RowS.l).take (k + 1)) := Lib.hid (by rw [HRE.out, List.map_append, HMP.out]; rfl)
      have HL5 : Hid ((S2 ++ [(⟨A3, c3, r.l⟩ : RowS Nat)]).length = k + 1) := Lib.hid (by rw [List.length_append, HSK.out]; rfl)
      have HOWN5 : Hid (w5.ownsRow w.heap.size 36 1 (.slice A5 (k + 1) c5) (k + 1) (rc RowS.cells (S2 ++ [(⟨A3, c3, r.l⟩ : RowS Nat)]))) := Lib.hid (by rw [rc_append]; exact own5)
      clear own5 hg5 hb5
      go_roundw
      case rel => exact ⟨k + 1, A5, c5, S2 ++ [(⟨A3, c3, r.l⟩ : RowS Nat)], Nat.succ_le_of_lt HLT.out, HL5.out, by rw [HL5.out], by go_num, by rw [HL5.out]; exact HOWN5, HMP5, HOW5, hB5⟩
      case measure => simp [intOf]; have := HLT.out; omega
    · obtain rfl : k = R.length := by omega
      have hlk : ¬ (R.length : Int) < (R.length : Int) := by omega
      go_wp2_with fail
      go_ret
      refine ⟨⟨A2, c2, S2, by rw [HSK.out]; rfl, by rw [HSK.out]; exact HOWN.out, ?_, HOW.out⟩, hB⟩
      rw [HMP.out, List.take_of_length_le (by simp), HMAP.out]
end
section
theorem maps_ne {S1 S2 : List (RowS Nat)} {k : Nat} (h1 : k < S1.length) (h2 : k < S2.length) (h : S1[k].l ≠ S2[k].l) : S1.map RowS.l ≠ S2.map RowS.l := fun e => h (by
  have h3 := congrArg (fun l => l[k]?) e
  simpa [List.getElem?_eq_getElem h1, List.getElem?_eq_getElem h2] using h3)
theorem maps_eq {S1 S2 : List (RowS Nat)} (hl : S1.length = S2.length) (h : ∀ k, (h1 : k < S1.length) → (h2 : k < S2.length) → S1[k].l = S2[k].l) : S1.map RowS.l = S2.map RowS.l := by
  apply List.ext_getElem
  · simpa using hl
  · intro k h1 h2
    simpa using h k (by simpa using h1) (by simpa using h2)
theorem rsame8_any (A1 A2 : Option Addr) (c1 c2 : Nat) (S1 S2 : List (RowS Nat)) (w : World) (hl1 : S1.length ≤ 1000000) (hl2 : S2.length ≤ 1000000) (h1 : Sl w A1 (rc RowS.cells S1)) (h2 : Sl w A2 (rc RowS.cells S2))
    (r1 : ∀ r ∈ S1, Sl w r.A (by8 r.l) ∧ r.l.length ≤ 1000000) (r2 : ∀ r ∈ S2, Sl w r.A (by8 r.l) ∧ r.l.length ≤ 1000000) :
    Calls Try.prog 26 #[.slice A1 S1.length c1, .slice A2 S2.length c2] w fun e w' => e = .returned (.bool (decide (S1.map RowS.l = S2.map RowS.l))) ∧ Below w.heap.size w w' := by
  by_cases hlen : S1.length = S2.length
  · have HR1 := Lib.hid (fun k (hk : k < S1.length) => r1 S1[k] (List.getElem_mem hk))
    have HR2 := Lib.hid (fun k (hk : k < S2.length) => r2 S2[k] (List.getElem_mem hk))
    have HH1 := Lib.hid h1
    have HH2 := Lib.hid h2
    have HNE := Lib.hid (fun k (q1 : k < S1.length) (q2 : k < S2.length) (h : S1[k].l ≠ S2[k].l) => (decide_eq_false (maps_ne q1 q2 h) : decide (S1.map RowS.l = S2.map RowS.l) = false))
    have HEQ := Lib.hid (fun (h : ∀ k, (q1 : k < S1.length) → (q2 : k < S2.length) → S1[k].l = S2[k].l) => (decide_eq_true (maps_eq hlen h) : decide (S1.map RowS.l = S2.map RowS.l) = true))
    have HLE := Lib.hid hlen
    obtain ⟨n, hn⟩ : ∃ n, S1.length = n := ⟨_, rfl⟩
    have hn2 : S2.length = n := by omega
    have HN1 := Lib.hid hn
    have HN2 := Lib.hid hn2
    generalize decide (S1.map RowS.l = S2.map RowS.l) = Q at *
    rw [hn, hn2]
    have hnn : n ≤ 1000000 := by omega
    clear h1 h2 r1 r2 hlen hn hn2 hl1 hl2
    go_enter Try.func26, Try.ntmps26
    go_wp2_with fail
    go_loopw [5] (fun iv wr => ∃ k : Nat, k ≤ n ∧ iv = .int .i64 k ∧ Hid (∀ j, (q1 : j < S1.length) → (q2 : j < S2.length) → j < k → S1[j].l = S2[j].l) ∧ Below w.heap.size w wr) (fun iv _ => n - (intOf iv).toNat)
    case atStart => exact ⟨0, Nat.zero_le _, rfl, fun j _ _ h => absurd h (by omega), Below.refl _ _⟩
    case round =>
      obtain ⟨k, hk, rfl, HALL, hB⟩ := hrel
      by_cases hlt : k < n
      · have hlk : (k : Int) < (n : Int) := by omega
        have hgk : (0 : Int) ≤ (k : Int) := by omega
        have q1 : k < S1.length := by rw [HN1.out]; exact hlt
        have q2 : k < S2.length := by rw [HN2.out]; exact hlt
        obtain ⟨b1, o1, e1, hb1, g1⟩ := HH1.out.rowS q1
        obtain ⟨b2, o2, e2, hb2, g2⟩ := HH2.out.rowS q2
        subst e1; subst e2
        obtain ⟨s1, t1⟩ := HR1.out k q1
        obtain ⟨s2, t2⟩ := HR2.out k q2
        have HNEk := Lib.hid (HNE.out k q1 q2)
        have HNX := Lib.hid (fun (he : S1[k].l = S2[k].l) => (fun j p1 p2 hj => by
          rcases Nat.lt_or_ge j k with h | h
          · exact HALL.out j p1 p2 h
          · obtain rfl : j = k := by omega
            exact he : ∀ j, (p1 : j < S1.length) → (p2 : j < S2.length) → j < k + 1 → S1[j].l = S2[j].l))
        obtain ⟨x1, hx1⟩ : ∃ x, S1[k] = x := ⟨_, rfl⟩
        obtain ⟨x2, hx2⟩ : ∃ x, S2[k] = x := ⟨_, rfl⟩
        rw [hx1, hx2] at HNEk HNX
        rw [hx1] at g1 s1 t1
        rw [hx2] at g2 s2 t2
        clear hx1 hx2 q1 q2
        obtain ⟨m1, hm1⟩ : ∃ m, x1.l.length = m := ⟨_, rfl⟩
        obtain ⟨m2, hm2⟩ : ∃ m, x2.l.length = m := ⟨_, rfl⟩
        rw [hm1] at g1 t1
        rw [hm2] at g2 t2
        have HM1 := Lib.hid hm1
        have HM2 := Lib.hid hm2
        have HS1 := Lib.hid s1
        have HS2 := Lib.hid s2
        have HG := Lib.hid (fun V (hV : Below w.heap.size w V) => (show V.cell? ⟨b1, o1 + k, none⟩ = some (.slice x1.A m1 x1.c) ∧ V.cell? ⟨b2, o2 + k, none⟩ = some (.slice x2.A m2 x2.c) ∧ b1 < V.heap.size ∧ b2 < V.heap.size from
          ⟨(hV.cell (p := ⟨b1, o1 + k, none⟩) hb1).trans g1, (hV.cell (p := ⟨b2, o2 + k, none⟩) hb2).trans g2, Nat.lt_of_lt_of_le hb1 hV.size, Nat.lt_of_lt_of_le hb2 hV.size⟩))
        clear s1 s2 hm1 hm2 g1 g2 hb1 hb2
        obtain ⟨g1, g2, hb1, hb2⟩ := HG.out _ hB
        by_cases hm : m1 = m2
        · have hmb : ((m1 : Int) != (m2 : Int)) = false := by simp [hm]
          subst hm
          go_wp2_with fail
          go_quiet (fail)
          go_wp2_with fail
          have hB0 := below_drewN hB (by assumption)
          generalize wr.drewN _ = v0 at *
          clear hB g1 g2 hb1 hb2
          go_loopw [6] (fun iv wr => ∃ i : Nat, i ≤ m1 ∧ iv = .int .i64 i ∧ Hid (∀ j, (p1 : j < x1.l.length) → (p2 : j < x2.l.length) → j < i → x1.l[j] = x2.l[j]) ∧ Below w.heap.size w wr) (fun iv _ => m1 - (intOf iv).toNat)
          case atStart => exact ⟨0, Nat.zero_le _, rfl, fun j _ _ h => absurd h (by omega), hB0⟩
          case round =>
            obtain ⟨i, hi, rfl, HBY, hB⟩ := hrel
            clear hB0
            obtain ⟨g1, g2, hb1, hb2⟩ := HG.out _ hB
            by_cases hit : i < m1
            · have hik : (i : Int) < (m1 : Int) := by omega
              have hig : (0 : Int) ≤ (i : Int) := by omega
              have p1 : i < x1.l.length := by rw [HM1.out]; exact hit
              have p2 : i < x2.l.length := by rw [HM2.out]; exact hit
              obtain ⟨d1, f1, a1, y1⟩ := (HS1.out.below hB).byte p1
              obtain ⟨d2, f2, a2, y2⟩ := (HS2.out.below hB).byte p2
              rw [a1] at g1
              rw [a2] at g2
              by_cases hv : x1.l[i] = x2.l[i]
              · have HBY2 : Hid (∀ j, (p1 : j < x1.l.length) → (p2 : j < x2.l.length) → j < i + 1 → x1.l[j] = x2.l[j]) := Lib.hid (fun j p1 p2 hj => by
                  rcases Nat.lt_or_ge j i with h | h
                  · exact HBY.out j p1 p2 h
                  · obtain rfl : j = i := by omega
                    exact hv)
                rw [← hv] at y2
                obtain ⟨v, hvv⟩ : ∃ v, x1.l[i] = v := ⟨_, rfl⟩
                rw [hvv] at y1 y2
                clear hv hvv p1 p2 a1 a2
                go_wp2_with fail
                go_quiet (fail)
                go_wp2_with fail
                go_roundw
                case rel => exact ⟨i + 1, by omega, by go_num, HBY2, below_drewN hB _⟩
                case measure => simp [intOf]; omega
              · have HQ := Lib.hid (HNEk.out (fun e => hv (by simp only [e])))
                obtain ⟨v, hvv⟩ : ∃ v, x1.l[i] = v := ⟨_, rfl⟩
                obtain ⟨u, huu⟩ : ∃ v, x2.l[i] = v := ⟨_, rfl⟩
                rw [hvv, huu] at hv
                rw [hvv] at y1
                rw [huu] at y2
                have hvb : ((v : Int) != (u : Int)) = true := by simpa using (by omega : (v : Int) ≠ (u : Int))
                clear hv hvv huu p1 p2 a1 a2
                go_wp2_with fail
                go_quiet (fail)
                go_wp2_with fail
                go_ret
                exact ⟨retB HQ.out.symm, below_drewN hB _⟩
            · obtain rfl : i = m1 := by omega
              have hik : ¬ (i : Int) < (i : Int) := by omega
              have HN := Lib.hid (HNX.out (List.ext_getElem (by rw [HM1.out, HM2.out]) (fun j p1 p2 => HBY.out j p1 p2 (by rw [← HM1.out]; exact p1))))
              go_wp2_with fail
              go_roundw
              case rel => exact ⟨k + 1, by omega, by go_num, HN, hB⟩
              case measure => simp [intOf]; omega
        · have hmb : ((m1 : Int) != (m2 : Int)) = true := by simpa using (by omega : (m1 : Int) ≠ (m2 : Int))
          have HQ := Lib.hid (HNEk.out (fun e => hm (by rw [← HM1.out, ← HM2.out, e])))
          clear hm
          go_wp2_with fail
          go_quiet (fail)
          go_wp2_with fail
          go_ret
          exact ⟨retB HQ.out.symm, below_drewN hB _⟩
      · obtain rfl : k = n := by omega
        have hlk : ¬ (k : Int) < (k : Int) := by omega
        have HQ := Lib.hid (HEQ.out (fun j p1 p2 => HALL.out j p1 p2 (by rw [← HN1.out]; exact p1)))
        go_wp2_with fail
        go_ret
        exact ⟨retB HQ.out.symm, hB⟩
  · have hd : decide (S1.map RowS.l = S2.map RowS.l) = false := decide_eq_false (fun e => hlen (by have := congrArg List.length e; simpa using this))
    have HD := Lib.hid hd
    have hne : ((S1.length : Int) != (S2.length : Int)) = true := by simpa using (by omega : (S1.length : Int) ≠ (S2.length : Int))
    rw [hd]
    generalize S1.length = n1 at *
    generalize S2.length = n2 at *
    clear h1 h2 r1 r2 hd hlen
    go_enter Try.func26, Try.ntmps26
    go_wp2_with fail
    go_ret
    exact ⟨rfl, Below.refl _ _⟩
end
section
theorem snewest_ok {B b g kc : Nat} {K : Option Addr} {d : Dv} (f t : Nat) (w : World) (h : DrA B w b g K kc d) (hft : f ≤ t) (ht : t ≤ d.S.length) :
    Calls Try.prog 25 #[.pointer (some ⟨b, 0, none⟩), .int .i64 f, .int .i64 t] w fun e w' => e = .returned (.int .i64 (newestN d.S f (t - f))) ∧ Below w.heap.size w w' := by
  have HFIT := Lib.hid (fun V (hV : Below w.heap.size w V) => pfit_any (f : Int) (t : Int) V (h.below hV))
  rw [show fitP d.S.length (f : Int) (t : Int) = true by unfold fitP; rw [decide_eq_true (by omega), decide_eq_true (by omega), decide_eq_true (by omega)]; rfl] at HFIT
  have HNEW := Lib.hid (fun V (hV : Below w.heap.size w V) => pnewest_any f t V (h.below hV) hft ht)
  have hB0 : Below w.heap.size w (w.alloc (.cells #[.pointer (some ⟨b, 0, none⟩), .int .i64 f, .int .i64 t] 64)) := since_alloc (Below.refl _ _) _
  have HBX := Lib.hid (fun V (hV : Below (w.heap.size + 1) (w.alloc (.cells #[.pointer (some ⟨b, 0, none⟩), .int .i64 f, .int .i64 t] 64)) V) => (show V.cell? ⟨w.heap.size, 0, none⟩ = some (.pointer (some ⟨b, 0, none⟩)) ∧ V.cell? ⟨w.heap.size, 1, none⟩ = some (.int .i64 f) ∧ V.cell? ⟨w.heap.size, 2, none⟩ = some (.int .i64 t) ∧ w.heap.size < V.heap.size ∧ Below w.heap.size w V from by
    have hs := hV.size
    rw [World.size_alloc] at hs
    refine ⟨(hV.cell (p := ⟨w.heap.size, 0, none⟩) (Nat.lt_succ_self _)).trans (World.cell?_alloc_new w _ _ 0), (hV.cell (p := ⟨w.heap.size, 1, none⟩) (Nat.lt_succ_self _)).trans (World.cell?_alloc_new w _ _ 1), (hV.cell (p := ⟨w.heap.size, 2, none⟩) (Nat.lt_succ_self _)).trans (World.cell?_alloc_new w _ _ 2), by omega, hB0.trans (hV.mono (Nat.le_succ _))⟩))
  have HB0 := Lib.hid hB0
  generalize newestN d.S f (t - f) = nw at *
  clear h hft ht hB0
  go_enter Try.func25, Try.ntmps25
  go_wp2_with fail
  refine (HFIT.out _ HB0.out).mono ?_
  rintro e w2 ⟨rfl, hb2⟩
  obtain ⟨y0, y1, y2, hlt, hBW⟩ := HBX.out _ (by simpa [World.size_alloc] using hb2)
  have HB2 := Lib.hid hBW
  clear hb2 hBW
  go_wp2_with fail
  refine (HNEW.out _ HB2.out).mono ?_
  rintro e w3 ⟨rfl, hb3⟩
  have HB3 := Lib.hid (since_step HB2.out hb3)
  clear hb3
  go_wp2_with fail
  go_ret
  exact ⟨rfl, HB3.out⟩
end
section
def NobS (w : World) (p : Option Addr) : Prop := p = none ∨ ∃ s, p = some ⟨s, 0, none⟩ ∧ w.heap[s]? = some (.cells #[.pointer none, .int .i64 0, .int .i64 0, .int .i64 0, .int .i64 0, .slice none 0 0, .int .i64 0, .bool false] 66 (0, 0))
theorem NobS.below {w w' : World} {p : Option Addr} (h : NobS w p) (hb : Below w.heap.size w w') : NobS w' p := by
  rcases h with h | ⟨b, h1, h2⟩
  · exact .inl h
  · exact .inr ⟨b, h1, by rw [hb.block b (Array.getElem?_eq_some_iff.1 h2).1]; exact h2⟩
end
section
def fitF (n : Nat) (p each : Int) : Int := if 1 ≤ each ∧ 2 * each ≤ n ∧ 0 ≤ p ∧ p ≤ n - 2 * each then 0 else 2
theorem tdiv2 (n : Nat) : Int.tdiv (n : Int) 2 = ((n / 2 : Nat) : Int) := by
  rw [Int.tdiv_eq_ediv_of_nonneg (by omega)]; omega
theorem tmod2 (n : Nat) : Int.tmod (n : Int) 2 = ((n % 2 : Nat) : Int) := by
  rw [Int.tmod_eq_emod_of_nonneg (by omega)]; omega
theorem sfit_any {B b g kc : Nat} {K : Option Addr} {d : Dv} (p each : Int) (w : World) (h : DrA B w b g K kc d) :
    Calls Try.prog 67 #[.pointer (some ⟨b, 0, none⟩), .int .i64 p, .int .i64 each] w fun e w' => e = .returned (.int .i64 (fitF d.S.length p each)) ∧ Below w.heap.size w w' := by
  have HS := Lib.hid (dsize_any w h)
  have hn1 := h.len.1
  have hn2 := h.len.2
  generalize d.S.length = n at *
  have hq : ((n : Int) == 0) = false := by simpa using (by omega : (n : Int) ≠ 0)
  have hq2 := tdiv2 n
  have hwq : IntKind.i64.wrap ((n / 2 : Nat) : Int) = ((n / 2 : Nat) : Int) := by rw [IntKind.wrap_i64]; omega
  have HOK : Hid ((1 ≤ each ∧ 2 * each ≤ n ∧ 0 ≤ p ∧ p ≤ n - 2 * each) → fitF n p each = 0) := Lib.hid (fun h => if_pos h)
  have HNO : Hid (¬ (1 ≤ each ∧ 2 * each ≤ n ∧ 0 ≤ p ∧ p ≤ n - 2 * each) → fitF n p each = 2) := Lib.hid (fun h => if_neg h)
  generalize fitF n p each = R at *
  obtain ⟨q, hqn⟩ : ∃ q, n / 2 = q := ⟨_, rfl⟩
  rw [hqn] at hq2 hwq
  clear h
  by_cases h1 : each < 1
  · obtain rfl := HNO.out (by omega)
    clear HOK HNO hqn hn1 hn2
    go_enter Try.func67, Try.ntmps67
    go_wp2_with fail
    refine HS.out.mono ?_
    rintro e w1 ⟨rfl, hb⟩
    go_wp2_with fail
    go_ret
    exact ⟨rfl, hb⟩
  by_cases h2 : (q : Int) < each
  · obtain rfl := HNO.out (by omega)
    clear HOK HNO hqn hn1 hn2
    go_enter Try.func67, Try.ntmps67
    go_wp2_with fail
    refine HS.out.mono ?_
    rintro e w1 ⟨rfl, hb⟩
    go_wp2_with fail
    go_ret
    exact ⟨rfl, hb⟩
  by_cases h3 : p < 0
  · obtain rfl := HNO.out (by omega)
    clear HOK HNO hqn hn1 hn2
    go_enter Try.func67, Try.ntmps67
    go_wp2_with fail
    refine HS.out.mono ?_
    rintro e w1 ⟨rfl, hb⟩
    go_wp2_with fail
    go_ret
    exact ⟨rfl, hb⟩
  have hw2 : IntKind.i64.wrap (2 * each) = 2 * each := by rw [IntKind.wrap_i64]; omega
  have hw3 : IntKind.i64.wrap ((n : Int) - 2 * each) = (n : Int) - 2 * each := by rw [IntKind.wrap_i64]; omega
  by_cases h4 : (n : Int) - 2 * each < p
  · obtain rfl := HNO.out (by omega)
    clear HOK HNO hqn hn1 hn2
    go_enter Try.func67, Try.ntmps67
    go_wp2_with fail
    refine HS.out.mono ?_
    rintro e w1 ⟨rfl, hb⟩
    go_wp2_with fail
    go_ret
    exact ⟨rfl, hb⟩
  · obtain rfl := HOK.out (by omega)
    clear HOK HNO hqn hn1 hn2
    go_enter Try.func67, Try.ntmps67
    go_wp2_with fail
    refine HS.out.mono ?_
    rintro e w1 ⟨rfl, hb⟩
    go_wp2_with fail
    go_ret
    exact ⟨rfl, hb⟩
theorem splace_any (p each era : Nat) (w : World) (hp : p ≤ 2048) (he : each ≤ 2048) :
    Calls Try.prog 66 #[.int .i64 p, .int .i64 each, .int .i64 era] w fun e w' => e = .returned (.int .i64 ((p + era % 2 * each : Nat) : Int)) ∧ Below w.heap.size w w' := by
  have hq := tmod2 era
  obtain ⟨q, hqn⟩ : ∃ q, era % 2 = q := ⟨_, rfl⟩
  rw [hqn] at hq ⊢
  have hq1 : q = 0 ∨ q = 1 := by omega
  clear hqn
  have hw1 : IntKind.i64.wrap (q : Int) = (q : Int) := by rw [IntKind.wrap_i64]; omega
  rcases hq1 with rfl | rfl
  · have hw2 : IntKind.i64.wrap ((p : Int)) = (p : Int) := by rw [IntKind.wrap_i64]; omega
    go_enter Try.func66, Try.ntmps66
    go_wp2_with fail
    go_ret
    exact ⟨by simp, Below.refl _ _⟩
  · have hw2 : IntKind.i64.wrap ((each : Int)) = (each : Int) := by rw [IntKind.wrap_i64]; omega
    have hw3 : IntKind.i64.wrap ((p : Int) + (each : Int)) = (p : Int) + (each : Int) := by rw [IntKind.wrap_i64]; omega
    go_enter Try.func66, Try.ntmps66
    go_wp2_with fail
    go_ret
    exact ⟨by simp, Below.refl _ _⟩
def standF (S : List (List Nat)) (p each odd : Nat) : Option (Int × List Nat) := match readF S ((p + odd * each : Nat) : Int) ((p + odd * each + each : Nat) : Int) with
  | none => none
  | some (b, f) => if f.seq = 1 ∧ f.era ≠ 0 ∧ f.era % 2 = (odd : Int) then some (f.era, b) else none
def TRes (B : Nat) (w' : World) (e : Ending) (R : Option (Int × List Nat)) : Prop := ∃ A' c', e = .returned (.tuple #[.int .i64 (R.getD (0, [])).1, .slice A' (R.getD (0, [])).2.length c', .bool R.isSome]) ∧ w'.ownsRow B 5 1 (.slice A' (R.getD (0, [])).2.length c') (R.getD (0, [])).2.length (by8 (R.getD (0, [])).2)
theorem TRes.no (B : Nat) (w' : World) {R : Option (Int × List Nat)} (h : R = none) : TRes B w' (.returned (.tuple #[.int .i64 0, .slice none 0 0, .bool false])) R := by
  subst h
  exact ⟨none, 0, rfl, own_nil _ _ _⟩
theorem TRes.yes {B : Nat} {w' : World} {R : Option (Int × List Nat)} {era : Int} {l : List Nat} {A : Option Addr} {c : Nat} (h : R = some (era, l)) (ho : w'.ownsRow B 5 1 (.slice A l.length c) l.length (by8 l)) : TRes B w' (.returned (.tuple #[.int .i64 era, .slice A l.length c, .bool true])) R := by
  subst h
  exact ⟨A, c, rfl, ho⟩
end
end Go.Proofs.Ytiggcpfmmgmncaa
