import Derived.Test.YtiggcpfmmgmncaaSp26
section
namespace Go.Proofs.Ytiggcpfmmgmncaa
open Go.ChangeShapes Go.WideShapes Go.ChangeAt Go.RowKit
set_option linter.unusedVariables false
set_option linter.unusedSimpArgs false

set_option maxHeartbeats 4000000 in
set_option maxRecDepth 100000 in
theorem sopen_new {B b g kc : Nat} {K : Option Addr} {d : Dv} (f t : Nat) (life era : Int) (w : World) (h : DrA B w b g K kc d) (hB : B ≤ w.heap.size) (hft : f ≤ t) (ht : t ≤ d.S.length) (hl1 : 1 ≤ life) (hl2 : life ≤ 16777215) (he1 : 0 ≤ era) (he2 : era ≤ 16777215) (hnew : newestN d.S f (t - f) < life) :
    Calls Try.prog 15 #[.pointer (some ⟨b, 0, none⟩), .int .i64 f, .int .i64 t, .int .i64 life, .int .i64 era] w fun e w' => ∃ s A' c' R', e = .returned (.tuple #[.pointer (some ⟨s, 0, none⟩), .int .i64 0]) ∧ ScA B w' s b A' c' R' ⟨f, t, life, era, (scan d.S t era f 0 0).1, (scan d.S t era f 0 0).2 - f, false⟩ ∧ Below w.heap.size w w' ∧ w.heap.size ≤ s ∧ (∀ k, (Sc.row ⟨f, t, life, era, (scan d.S t era f 0 0).1, (scan d.S t era f 0 0).2 - f, false⟩ A' c').ownBlock = some k → w.heap.size ≤ k) := by
  have HS := Lib.hid (dsize_eq w h)
  have hn0 : (((d.S.length : Nat) : Int) == 0) = false := by have := h.len.1; simpa using (by omega : ((d.S.length : Nat) : Int) ≠ 0)
  have hsl := h.len.2
  have HFIT := Lib.hid (fun V (hV : Below w.heap.size w V) => pfit_any (f : Int) (t : Int) V (h.below hV))
  rw [show fitP d.S.length (f : Int) (t : Int) = true by unfold fitP; rw [decide_eq_true (by omega), decide_eq_true (by omega), decide_eq_true (by omega)]; rfl] at HFIT
  have HNEW := Lib.hid (fun V (hV : Below w.heap.size w V) => pnewest_any f t V (h.below hV) hft ht)
  have HD := Lib.hid (fun V (hV : Below w.heap.size w V) => h.below hV)
  have HT := Lib.hid ht
  have HBB := Lib.hid hB
  have HFT := Lib.hid (show f ≤ 2048 ∧ t ≤ 2048 by omega)
  obtain ⟨nw, hnw⟩ : ∃ nw, newestN d.S f (t - f) = nw := ⟨_, rfl⟩
  rw [hnw] at HNEW hnew
  have c1 : ¬ life < 1 := by omega
  have c2 : ¬ 16777215 < life := by omega
  have c3 : ¬ life ≤ nw := by omega
  have c4 : ¬ era < 0 := by omega
  have c5 : ¬ 16777215 < era := by omega
  have d1 : decide (life < 1) = false := decide_eq_false c1
  have d2 : decide (16777215 < life) = false := decide_eq_false c2
  have d3 : decide (life ≤ nw) = false := decide_eq_false c3
  have d4 : decide (era < 0) = false := decide_eq_false c4
  have d5 : decide (16777215 < era) = false := decide_eq_false c5
  obtain ⟨n, hn⟩ : ∃ n, d.S.length = n := ⟨_, rfl⟩
  rw [hn] at HS hn0 hsl
  try rw [hn] at HFIT
  clear hn h hB hft ht hnw hl1 hl2 he1 he2 hnew
  go_enter Try.func15, Try.ntmps15
  go_wp2_with fail
  refine HS.out.mono ?_
  rintro e w1 ⟨rfl, rfl⟩
  go_wp2_with fail
  have hs0 : ScA B (w1.alloc (.cells #[.pointer (some ⟨b, 0, none⟩), .int .i64 f, .int .i64 t, .int .i64 life, .int .i64 era, .slice none 0 0, .int .i64 0, .bool false] 66)) w1.heap.size b none 0 [] ⟨f, t, life, era, [], 0, false⟩ := by
    refine ⟨?_, own_nil _ _ _, (fun s hs => by cases hs), rfl, HBB.out, HFT.out.1, HFT.out.2, Nat.zero_le _, Nat.zero_le _⟩
    rw [heap_alloc_new]
    simp [Sc.cells]
  have hB0 : Below w1.heap.size w1 (w1.alloc (.cells #[.pointer (some ⟨b, 0, none⟩), .int .i64 f, .int .i64 t, .int .i64 life, .int .i64 era, .slice none 0 0, .int .i64 0, .bool false] 66)) := since_alloc (Below.refl _ _) _
  have HS0 := Lib.hid hs0
  have HB0 := Lib.hid hB0
  clear hs0 hB0
  refine (HFIT.out _ HB0.out).mono ?_
  rintro e w2 ⟨rfl, hb2⟩
  have HS2 := Lib.hid (HS0.out.below hb2)
  have HB2 := Lib.hid (since_step HB0.out hb2)
  obtain ⟨p0, p1, p2, p3, p4, p5, p6, p7⟩ := HS2.out.got
  have ps := HS2.out.lt
  simp only at p0 p1 p2 p3 p4 p5 p6 p7
  clear hb2
  go_wp2_with fail
  refine (HNEW.out _ HB2.out).mono ?_
  rintro e w3 ⟨rfl, hb3⟩
  have HS3 := Lib.hid (HS2.out.below hb3)
  have HB3 := Lib.hid (since_step HB2.out hb3)
  clear hb3 p0 p1 p2 p3 p4 p5 p6 p7 ps
  have hr := sread_any w3 (HD.out _ HB3.out) HS3.out (Nat.le_trans HBB.out HB3.out.size) HT.out (by have := HFT.out; show f + 0 ≤ 2048; omega) (Nat.zero_le _)
  simp only [List.nil_append, Nat.add_zero, List.length_nil] at hr
  have HR := Lib.hid hr
  clear hr
  go_wp2_with fail
  refine HR.out.mono ?_
  rintro e w4 ⟨rfl, A4, c4', R4, hs4, hc4, hr4⟩
  have hr5 : ∀ k, (Sc.row ⟨f, t, life, era, (scan d.S t era f 0 0).1, (scan d.S t era f 0 0).2 - f, false⟩ A4 c4').ownBlock = some k → w1.heap.size ≤ k := fun k hk => by
    rcases hr4 with h1 | ⟨k2, h1, h2⟩
    · rw [h1] at hk; simp [Sc.row, Value.ownBlock] at hk
    · rw [h2] at hk; injection hk with hk; subst hk; exact Nat.le_trans HB3.out.size h1
  have HR5 := Lib.hid hr5
  have HB4 := HB3.out.trans (hc4.below HB3.out.size (fun y hy => by
    rcases List.mem_cons.1 hy with e | e
    · rw [e]; exact Nat.le_refl _
    · simp [Sc.row, Value.ownBlock] at e))
  have HS4 := Lib.hid hs4
  clear hs4 hc4 hr4 hr5
  go_wp2_with fail
  go_ret2
  exact ⟨w1.heap.size, A4, c4', R4, rfl, HS4.out, HB4, Nat.le_refl _, HR5.out⟩
theorem sopen_ok {B b g kc : Nat} {K : Option Addr} {d : Dv} (f t : Nat) (life era : Int) (w : World) (h : DrA B w b g K kc d) (hB : B ≤ w.heap.size) (hft : f ≤ t) (ht : t ≤ d.S.length) (hl1 : 1 ≤ life) (hl2 : life ≤ 16777215) (he1 : 0 ≤ era) (he2 : era ≤ 16777215) (hnew : newestN d.S f (t - f) < life) :
    Calls Try.prog 15 #[.pointer (some ⟨b, 0, none⟩), .int .i64 f, .int .i64 t, .int .i64 life, .int .i64 era] w fun e w' => ∃ s A' c' R', e = .returned (.tuple #[.pointer (some ⟨s, 0, none⟩), .int .i64 0]) ∧ ScA B w' s b A' c' R' ⟨f, t, life, era, (scan d.S t era f 0 0).1, (scan d.S t era f 0 0).2 - f, false⟩ ∧ Below w.heap.size w w' :=
  (sopen_new f t life era w h hB hft ht hl1 hl2 he1 he2 hnew).mono (fun e w' ⟨s, A', c', R', h1, h2, h3, _⟩ => ⟨s, A', c', R', h1, h2, h3⟩)
end Go.Proofs.Ytiggcpfmmgmncaa
end
section
namespace Go.Proofs.Ytiggcpfmmgmncaa
open Go.ChangeShapes Go.WideShapes Go.ChangeAt Go.RowKit
set_option linter.unusedVariables false
set_option linter.unusedSimpArgs false

set_option maxHeartbeats 4000000 in
set_option maxRecDepth 100000 in
theorem srecords_any {B s b c : Nat} {A : Option Addr} {R : List (RowS Nat)} {x : Sc} (w : World) (h : ScA B w s b A c R x) (hl : ∀ r ∈ R, r.l.length ≤ 100000) :
    Calls Try.prog 27 #[.pointer (some ⟨s, 0, none⟩)] w fun e w' => (∃ (A' : Option Addr) (c' : Nat) (S : List (RowS Nat)), e = .returned (.slice A' S.length c') ∧ w'.ownsRow w.heap.size 36 1 (.slice A' S.length c') S.length (rc RowS.cells S) ∧ S.map RowS.l = x.L ∧ OwnR w.heap.size w' S) ∧ Below w.heap.size w w' := by
  have HSC := Lib.hid (fun V (hV : Below w.heap.size w V) => (show V.cell? ⟨s, 5, none⟩ = some (.slice A x.L.length c) ∧ s < V.heap.size from by
    have h := h.below hV
    obtain ⟨k0, k1, k2, k3, k4, k5, k6, k7⟩ := h.got
    exact ⟨k5, h.lt⟩))
  have hLR : x.L.length = R.length := by rw [← h.map, List.length_map]
  have hsm := h.small.2.2.2
  rw [hLR] at HSC hsm
  have HSL := Lib.hid (fun V (hV : Below w.heap.size w V) => Sl.of_own (own_below h.own hV))
  have HRW := Lib.hid (fun V (hV : Below w.heap.size w V) k (hk : k < R.length) => Sl.of_own (own_below (h.rows R[k] (List.getElem_mem hk)) hV))
  have HLL := Lib.hid (fun k (hk : k < R.length) => hl R[k] (List.getElem_mem hk))
  have HMAP := Lib.hid h.map
  have HSM := Lib.hid hsm
  obtain ⟨p5, ps⟩ := HSC.out _ (Below.refl _ w)
  clear h hl hLR hsm
  go_enter Try.func27, Try.ntmps27
  go_wp2_with (first
    | (at_make; refine wpList_mk rfl (.const (.int .i64 0)) (.tmp 12) rfl EDR R.length rfl rfl rfl (by have := HSM.out; omega) (by unfold maxLen; have := HSM.out; omega) (Nat.le_refl _) ?_; intro w1 own1 hb1; obtain ⟨p5, ps⟩ := HSC.out _ hb1)
    | fail)
  clear p5 ps
  have HB1 := Lib.hid hb1
  have HO1 := Lib.hid own1
  clear hb1 own1
  go_loopw [3, 19] (fun bv iv wr => ∃ (k : Nat) (A2 : Option Addr) (c2 : Nat) (S2 : List (RowS Nat)), k ≤ R.length ∧ S2.length = k ∧ bv = .slice A2 S2.length c2 ∧ iv = .int .i64 k ∧ Hid (wr.ownsRow w.heap.size 36 1 (.slice A2 S2.length c2) S2.length (rc RowS.cells S2)) ∧ Hid (S2.map RowS.l = (R.map RowS.l).take k) ∧ Hid (OwnR w.heap.size wr S2) ∧ Below w.heap.size w wr) (fun _ iv _ => R.length - (intOf iv).toNat)
  case atStart => exact ⟨0, some ⟨w.heap.size, 0, none⟩, R.length, [], Nat.zero_le _, rfl, rfl, rfl, HO1.out, rfl, (fun s hs => by cases hs), HB1.out⟩
  case round =>
    obtain ⟨k, A2, c2, S2, hk, hSk, rfl, rfl, HOWN, HMP, HOW, hB⟩ := hrel
    rw [hSk] at HOWN ⊢
    have HSK := Lib.hid hSk
    clear hSk
    by_cases hlt : k < R.length
    · have HLT := Lib.hid hlt
      have hRb : R.length ≤ 1000000 := HSM.out
      have hlk : (k : Int) < (R.length : Int) := by omega
      have hgk : (0 : Int) ≤ (k : Int) := by omega
      obtain ⟨bb, oo, hA, hbw, hg⟩ := (HSL.out _ hB).rowS hlt
      subst hA
      have hrs := HRW.out _ hB k hlt
      have hrl := HLL.out k hlt
      have HRE : Hid ((R.map RowS.l).take (k + 1) = (R.map RowS.l).take k ++ [(R[k]'hlt).l]) := Lib.hid (by rw [List.take_succ_eq_append_getElem (by simpa using hlt)]; simp)
      obtain ⟨r, hrr⟩ : ∃ r, R[k]'hlt = r := ⟨_, rfl⟩
      rw [hrr] at hg hrs hrl HRE
      clear hrr
      have HCL := Lib.hid (clone8_any r.A r.c r.l wr (by omega) hrs)
      clear hrs hrl
      go_wp2_with fail
      refine HCL.out.mono ?_
      rintro e w3 ⟨⟨A3, c3, rfl, own3⟩, hb3⟩
      have hB3 := since_step hB hb3
      have HO3 := Lib.hid (own_base own3 hB.size)
      have HOWN3 := Lib.hid (own_below HOWN.out hb3)
      have HOW3 : Hid (OwnR w.heap.size w3 S2) := Lib.hid (HOW.out.below hb3)
      have hsz3 : w.heap.size ≤ w3.heap.size := hB3.size
      clear own3 hb3 HCL hg
      go_wp2_with (first
        | (at_builtin; refine wpList_app rfl (.tmp 23) (.tmp 26) rfl EDR rfl rfl (HOWN3.out.alloc _) (m := 1) (news := [.slice A3 r.l.length c3]) rfl (Sl.new_ _ _ _) (fun u hu => by simp only [List.mem_cons, List.not_mem_nil, or_false] at hu; subst hu; rfl) (by unfold maxLen; have := HSM.out; omega) (by have := HSM.out; omega) (by simp only [World.size_alloc]; omega) ?_; intro A5 c5 w5 own5 hg5 hb5)
        | fail)
      have hB5 := (hB3.alloc hsz3 (.cells #[.slice A3 r.l.length c3] 36)).trans hb5
      have HOW5 : Hid (OwnR w.heap.size w5 (S2 ++ [(⟨A3, c3, r.l⟩ : RowS Nat)])) := Lib.hid (fun s hs => by
        have key : ∀ (v : Value) (n : Nat) (xs : List Value), w3.ownsRow w.heap.size 5 1 v n xs → w5.ownsRow w.heap.size 5 1 v n xs := fun v n xs h => own_kept_types (by decide) (h.alloc _) (HOWN3.out.alloc _) hg5
        rcases List.mem_append.1 hs with h | h
        · exact key _ _ _ (HOW3.out s h)
        · rw [List.mem_singleton] at h
          subst h
          exact key _ _ _ HO3.out)
      have HMP5 : Hid ((S2 ++ [(⟨A3, c3, r.l⟩ : RowS Nat)]).map RowS.l = (R.map RowS.l).take (k + 1)) := Lib.hid (by rw [HRE.out, List.map_append, HMP.out]; rfl)
      have HL5 : Hid ((S2 ++ [(⟨A3, c3, r.l⟩ : RowS Nat)]).length = k + 1) := Lib.hid (by rw [List.length_append, HSK.out]; rfl)
      have HOWN5 : Hid (w5.ownsRow w.heap.size 36 1 (.slice A5 (k + 1) c5) (k + 1) (rc RowS.cells (S2 ++ [(⟨A3, c3, r.l⟩ : RowS Nat)]))) := Lib.hid (by rw [rc_append]; exact own5)
      clear own5 hg5 hb5
      go_roundw
      case rel => exact ⟨k + 1, A5, c5, S2 ++ [(⟨A3, c3, r.l⟩ : RowS Nat)], Nat.succ_le_of_lt HLT.out, HL5.out, by rw [HL5.out], by go_num, by rw [HL5.out]; exact HOWN5, HMP5, HOW5, hB5⟩
      case measure => simp [intOf]; have := HLT.out; omega
    · obtain rfl : k = R.length := by omega
      have hlk : ¬ (R.length : Int) < (R.length : Int) := by omega
      go_wp2_with fail
      go_ret
      refine ⟨⟨A2, c2, S2, by rw [HSK.out]; rfl, by rw [HSK.out]; exact HOWN.out, ?_, HOW.out⟩, hB⟩
      rw [HMP.out, List.take_of_length_le (by simp), HMAP.out]
end Go.Proofs.Ytiggcpfmmgmncaa
end
