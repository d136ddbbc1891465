import Derived.Test.YtiggcpfmmgmncaaSp27
import Derived.Test.YtiggcpfmmgmncaaSp23
section
namespace Go.Proofs.Ytiggcpfmmgmncaa
open Go.ChangeShapes Go.WideShapes Go.ChangeAt Go.RowKit
set_option linter.unusedVariables false
set_option linter.unusedSimpArgs false

theorem maps_ne {S1 S2 : List (RowS Nat)} {k : Nat} (h1 : k < S1.length) (h2 : k < S2.length) (h : S1[k].l ≠ S2[k].l) : S1.map RowS.l ≠ S2.map RowS.l := fun e => h (by
  have h3 := congrArg (fun l => l[k]?) e
  simpa [List.getElem?_eq_getElem h1, List.getElem?_eq_getElem h2] using h3)
theorem maps_eq {S1 S2 : List (RowS Nat)} (hl : S1.length = S2.length) (h : ∀ k, (h1 : k < S1.length) → (h2 : k < S2.length) → S1[k].l = S2[k].l) : S1.map RowS.l = S2.map RowS.l := by
  apply List.ext_getElem
  · simpa using hl
  · intro k h1 h2
    simpa using h k (by simpa using h1) (by simpa using h2)
set_option maxHeartbeats 8000000 in
set_option maxRecDepth 100000 in
theorem rsame8_any (A1 A2 : Option Addr) (c1 c2 : Nat) (S1 S2 : List (RowS Nat)) (w : World) (hl1 : S1.length ≤ 1000000) (hl2 : S2.length ≤ 1000000) (h1 : Sl w A1 (rc RowS.cells S1)) (h2 : Sl w A2 (rc RowS.cells S2))
    (r1 : ∀ r ∈ S1, Sl w r.A (by8 r.l) ∧ r.l.length ≤ 1000000) (r2 : ∀ r ∈ S2, Sl w r.A (by8 r.l) ∧ r.l.length ≤ 1000000) :
    Calls Try.prog 26 #[.slice A1 S1.length c1, .slice A2 S2.length c2] w fun e w' => e = .returned (.bool (decide (S1.map RowS.l = S2.map RowS.l))) ∧ Below w.heap.size w w' := by
  by_cases hlen : S1.length = S2.length
  · have HR1 := Lib.hid (fun k (hk : k < S1.length) => r1 S1[k] (List.getElem_mem hk))
    have HR2 := Lib.hid (fun k (hk : k < S2.length) => r2 S2[k] (List.getElem_mem hk))
    have HH1 := Lib.hid h1
    have HH2 := Lib.hid h2
    have HNE := Lib.hid (fun k (q1 : k < S1.length) (q2 : k < S2.length) (h : S1[k].l ≠ S2[k].l) => (decide_eq_false (maps_ne q1 q2 h) : decide (S1.map RowS.l = S2.map RowS.l) = false))
    have HEQ := Lib.hid (fun (h : ∀ k, (q1 : k < S1.length) → (q2 : k < S2.length) → S1[k].l = S2[k].l) => (decide_eq_true (maps_eq hlen h) : decide (S1.map RowS.l = S2.map RowS.l) = true))
    have HLE := Lib.hid hlen
    obtain ⟨n, hn⟩ : ∃ n, S1.length = n := ⟨_, rfl⟩
    have hn2 : S2.length = n := by omega
    have HN1 := Lib.hid hn
    have HN2 := Lib.hid hn2
    generalize decide (S1.map RowS.l = S2.map RowS.l) = Q at *
    rw [hn, hn2]
    have hnn : n ≤ 1000000 := by omega
    clear h1 h2 r1 r2 hlen hn hn2 hl1 hl2
    go_enter Try.func26, Try.ntmps26
    go_wp2_with fail
    go_loopw [5] (fun iv wr => ∃ k : Nat, k ≤ n ∧ iv = .int .i64 k ∧ Hid (∀ j, (q1 : j < S1.length) → (q2 : j < S2.length) → j < k → S1[j].l = S2[j].l) ∧ Below w.heap.size w wr) (fun iv _ => n - (intOf iv).toNat)
    case atStart => exact ⟨0, Nat.zero_le _, rfl, fun j _ _ h => absurd h (by omega), Below.refl _ _⟩
    case round =>
      obtain ⟨k, hk, rfl, HALL, hB⟩ := hrel
      by_cases hlt : k < n
      · have hlk : (k : Int) < (n : Int) := by omega
        have hgk : (0 : Int) ≤ (k : Int) := by omega
        have q1 : k < S1.length := by rw [HN1.out]; exact hlt
        have q2 : k < S2.length := by rw [HN2.out]; exact hlt
        obtain ⟨b1, o1, e1, hb1, g1⟩ := HH1.out.rowS q1
        obtain ⟨b2, o2, e2, hb2, g2⟩ := HH2.out.rowS q2
        subst e1; subst e2
        obtain ⟨s1, t1⟩ := HR1.out k q1
        obtain ⟨s2, t2⟩ := HR2.out k q2
        have HNEk := Lib.hid (HNE.out k q1 q2)
        have HNX := Lib.hid (fun (he : S1[k].l = S2[k].l) => (fun j p1 p2 hj => by
          rcases Nat.lt_or_ge j k with h | h
          · exact HALL.out j p1 p2 h
          · obtain rfl : j = k := by omega
            exact he : ∀ j, (p1 : j < S1.length) → (p2 : j < S2.length) → j < k + 1 → S1[j].l = S2[j].l))
        obtain ⟨x1, hx1⟩ : ∃ x, S1[k] = x := ⟨_, rfl⟩
        obtain ⟨x2, hx2⟩ : ∃ x, S2[k] = x := ⟨_, rfl⟩
        rw [hx1, hx2] at HNEk HNX
        rw [hx1] at g1 s1 t1
        rw [hx2] at g2 s2 t2
        clear hx1 hx2 q1 q2
        obtain ⟨m1, hm1⟩ : ∃ m, x1.l.length = m := ⟨_, rfl⟩
        obtain ⟨m2, hm2⟩ : ∃ m, x2.l.length = m := ⟨_, rfl⟩
        rw [hm1] at g1 t1
        rw [hm2] at g2 t2
        have HM1 := Lib.hid hm1
        have HM2 := Lib.hid hm2
        have HS1 := Lib.hid s1
        have HS2 := Lib.hid s2
        have HG := Lib.hid (fun V (hV : Below w.heap.size w V) => (show V.cell? ⟨b1, o1 + k, none⟩ = some (.slice x1.A m1 x1.c) ∧ V.cell? ⟨b2, o2 + k, none⟩ = some (.slice x2.A m2 x2.c) ∧ b1 < V.heap.size ∧ b2 < V.heap.size from
          ⟨(hV.cell (p := ⟨b1, o1 + k, none⟩) hb1).trans g1, (hV.cell (p := ⟨b2, o2 + k, none⟩) hb2).trans g2, Nat.lt_of_lt_of_le hb1 hV.size, Nat.lt_of_lt_of_le hb2 hV.size⟩))
        clear s1 s2 hm1 hm2 g1 g2 hb1 hb2
        obtain ⟨g1, g2, hb1, hb2⟩ := HG.out _ hB
        by_cases hm : m1 = m2
        · have hmb : ((m1 : Int) != (m2 : Int)) = false := by simp [hm]
          subst hm
          go_wp2_with fail
          go_quiet (fail)
          go_wp2_with fail
          have hB0 := below_drewN hB (by assumption)
          generalize wr.drewN _ = v0 at *
          clear hB g1 g2 hb1 hb2
          go_loopw [6] (fun iv wr => ∃ i : Nat, i ≤ m1 ∧ iv = .int .i64 i ∧ Hid (∀ j, (p1 : j < x1.l.length) → (p2 : j < x2.l.length) → j < i → x1.l[j] = x2.l[j]) ∧ Below w.heap.size w wr) (fun iv _ => m1 - (intOf iv).toNat)
          case atStart => exact ⟨0, Nat.zero_le _, rfl, fun j _ _ h => absurd h (by omega), hB0⟩
          case round =>
            obtain ⟨i, hi, rfl, HBY, hB⟩ := hrel
            clear hB0
            obtain ⟨g1, g2, hb1, hb2⟩ := HG.out _ hB
            by_cases hit : i < m1
            · have hik : (i : Int) < (m1 : Int) := by omega
              have hig : (0 : Int) ≤ (i : Int) := by omega
              have p1 : i < x1.l.length := by rw [HM1.out]; exact hit
              have p2 : i < x2.l.length := by rw [HM2.out]; exact hit
              obtain ⟨d1, f1, a1, y1⟩ := (HS1.out.below hB).byte p1
              obtain ⟨d2, f2, a2, y2⟩ := (HS2.out.below hB).byte p2
              rw [a1] at g1
              rw [a2] at g2
              by_cases hv : x1.l[i] = x2.l[i]
              · have HBY2 : Hid (∀ j, (p1 : j < x1.l.length) → (p2 : j < x2.l.length) → j < i + 1 → x1.l[j] = x2.l[j]) := Lib.hid (fun j p1 p2 hj => by
                  rcases Nat.lt_or_ge j i with h | h
                  · exact HBY.out j p1 p2 h
                  · obtain rfl : j = i := by omega
                    exact hv)
                rw [← hv] at y2
                obtain ⟨v, hvv⟩ : ∃ v, x1.l[i] = v := ⟨_, rfl⟩
                rw [hvv] at y1 y2
                clear hv hvv p1 p2 a1 a2
                go_wp2_with fail
                go_quiet (fail)
                go_wp2_with fail
                go_roundw
                case rel => exact ⟨i + 1, by omega, by go_num, HBY2, below_drewN hB _⟩
                case measure => simp [intOf]; omega
              · have HQ := Lib.hid (HNEk.out (fun e => hv (by simp only [e])))
                obtain ⟨v, hvv⟩ : ∃ v, x1.l[i] = v := ⟨_, rfl⟩
                obtain ⟨u, huu⟩ : ∃ v, x2.l[i] = v := ⟨_, rfl⟩
                rw [hvv, huu] at hv
                rw [hvv] at y1
                rw [huu] at y2
                have hvb : ((v : Int) != (u : Int)) = true := by simpa using (by omega : (v : Int) ≠ (u : Int))
                clear hv hvv huu p1 p2 a1 a2
                go_wp2_with fail
                go_quiet (fail)
                go_wp2_with fail
                go_ret
                exact ⟨retB HQ.out.symm, below_drewN hB _⟩
            · obtain rfl : i = m1 := by omega
              have hik : ¬ (i : Int) < (i : Int) := by omega
              have HN := Lib.hid (HNX.out (List.ext_getElem (by rw [HM1.out, HM2.out]) (fun j p1 p2 => HBY.out j p1 p2 (by rw [← HM1.out]; exact p1))))
              go_wp2_with fail
              go_roundw
              case rel => exact ⟨k + 1, by omega, by go_num, HN, hB⟩
              case measure => simp [intOf]; omega
        · have hmb : ((m1 : Int) != (m2 : Int)) = true := by simpa using (by omega : (m1 : Int) ≠ (m2 : Int))
          have HQ := Lib.hid (HNEk.out (fun e => hm (by rw [← HM1.out, ← HM2.out, e])))
          clear hm
          go_wp2_with fail
          go_quiet (fail)
          go_wp2_with fail
          go_ret
          exact ⟨retB HQ.out.symm, below_drewN hB _⟩
      · obtain rfl : k = n := by omega
        have hlk : ¬ (k : Int) < (k : Int) := by omega
        have HQ := Lib.hid (HEQ.out (fun j p1 p2 => HALL.out j p1 p2 (by rw [← HN1.out]; exact p1)))
        go_wp2_with fail
        go_ret
        exact ⟨retB HQ.out.symm, hB⟩
  · have hd : decide (S1.map RowS.l = S2.map RowS.l) = false := decide_eq_false (fun e => hlen (by have := congrArg List.length e; simpa using this))
    have HD := Lib.hid hd
    have hne : ((S1.length : Int) != (S2.length : Int)) = true := by simpa using (by omega : (S1.length : Int) ≠ (S2.length : Int))
    rw [hd]
    generalize S1.length = n1 at *
    generalize S2.length = n2 at *
    clear h1 h2 r1 r2 hd hlen
    go_enter Try.func26, Try.ntmps26
    go_wp2_with fail
    go_ret
    exact ⟨rfl, Below.refl _ _⟩
end Go.Proofs.Ytiggcpfmmgmncaa
end
section
namespace Go.Proofs.Ytiggcpfmmgmncaa
open Go.ChangeShapes Go.WideShapes Go.ChangeAt Go.RowKit
set_option linter.unusedVariables false
set_option linter.unusedSimpArgs false

set_option maxHeartbeats 4000000 in
set_option maxRecDepth 100000 in
theorem snewest_ok {B b g kc : Nat} {K : Option Addr} {d : Dv} (f t : Nat) (w : World) (h : DrA B w b g K kc d) (hft : f ≤ t) (ht : t ≤ d.S.length) :
    Calls Try.prog 25 #[.pointer (some ⟨b, 0, none⟩), .int .i64 f, .int .i64 t] w fun e w' => e = .returned (.int .i64 (newestN d.S f (t - f))) ∧ Below w.heap.size w w' := by
  have HFIT := Lib.hid (fun V (hV : Below w.heap.size w V) => pfit_any (f : Int) (t : Int) V (h.below hV))
  rw [show fitP d.S.length (f : Int) (t : Int) = true by unfold fitP; rw [decide_eq_true (by omega), decide_eq_true (by omega), decide_eq_true (by omega)]; rfl] at HFIT
  have HNEW := Lib.hid (fun V (hV : Below w.heap.size w V) => pnewest_any f t V (h.below hV) hft ht)
  have hB0 : Below w.heap.size w (w.alloc (.cells #[.pointer (some ⟨b, 0, none⟩), .int .i64 f, .int .i64 t] 64)) := since_alloc (Below.refl _ _) _
  have HBX := Lib.hid (fun V (hV : Below (w.heap.size + 1) (w.alloc (.cells #[.pointer (some ⟨b, 0, none⟩), .int .i64 f, .int .i64 t] 64)) V) => (show V.cell? ⟨w.heap.size, 0, none⟩ = some (.pointer (some ⟨b, 0, none⟩)) ∧ V.cell? ⟨w.heap.size, 1, none⟩ = some (.int .i64 f) ∧ V.cell? ⟨w.heap.size, 2, none⟩ = some (.int .i64 t) ∧ w.heap.size < V.heap.size ∧ Below w.heap.size w V from by
    have hs := hV.size
    rw [World.size_alloc] at hs
    refine ⟨(hV.cell (p := ⟨w.heap.size, 0, none⟩) (Nat.lt_succ_self _)).trans (World.cell?_alloc_new w _ _ 0), (hV.cell (p := ⟨w.heap.size, 1, none⟩) (Nat.lt_succ_self _)).trans (World.cell?_alloc_new w _ _ 1), (hV.cell (p := ⟨w.heap.size, 2, none⟩) (Nat.lt_succ_self _)).trans (World.cell?_alloc_new w _ _ 2), by omega, hB0.trans (hV.mono (Nat.le_succ _))⟩))
  have HB0 := Lib.hid hB0
  generalize newestN d.S f (t - f) = nw at *
  clear h hft ht hB0
  go_enter Try.func25, Try.ntmps25
  go_wp2_with fail
  refine (HFIT.out _ HB0.out).mono ?_
  rintro e w2 ⟨rfl, hb2⟩
  obtain ⟨y0, y1, y2, hlt, hBW⟩ := HBX.out _ (by simpa [World.size_alloc] using hb2)
  have HB2 := Lib.hid hBW
  clear hb2 hBW
  go_wp2_with fail
  refine (HNEW.out _ HB2.out).mono ?_
  rintro e w3 ⟨rfl, hb3⟩
  have HB3 := Lib.hid (since_step HB2.out hb3)
  clear hb3
  go_wp2_with fail
  go_ret
  exact ⟨rfl, HB3.out⟩
end Go.Proofs.Ytiggcpfmmgmncaa
end
section
namespace Go.Proofs.Ytiggcpfmmgmncaa
open Go.ChangeShapes Go.WideShapes Go.ChangeAt Go.RowKit
set_option linter.unusedVariables false
set_option linter.unusedSimpArgs false

def NobS (w : World) (p : Option Addr) : Prop := p = none ∨ ∃ s, p = some ⟨s, 0, none⟩ ∧ w.heap[s]? = some (.cells #[.pointer none, .int .i64 0, .int .i64 0, .int .i64 0, .int .i64 0, .slice none 0 0, .int .i64 0, .bool false] 66 (0, 0))
theorem NobS.below {w w' : World} {p : Option Addr} (h : NobS w p) (hb : Below w.heap.size w w') : NobS w' p := by
  rcases h with h | ⟨b, h1, h2⟩
  · exact .inl h
  · exact .inr ⟨b, h1, by rw [hb.block b (Array.getElem?_eq_some_iff.1 h2).1]; exact h2⟩
end Go.Proofs.Ytiggcpfmmgmncaa
end
section
namespace Go.Proofs.Ytiggcpfmmgmncaa
open Go.ChangeShapes Go.WideShapes Go.ChangeAt Go.RowKit
set_option linter.unusedVariables false
set_option linter.unusedSimpArgs false

def standF (S : List (List Nat)) (p each odd : Nat) : Option (Int × List Nat) := match readF S ((p + odd * each : Nat) : Int) ((p + odd * each + each : Nat) : Int) with
  | none => none
  | some (b, f) => if f.seq = 1 ∧ f.era ≠ 0 ∧ f.era % 2 = (odd : Int) then some (f.era, b) else none
def TRes (B : Nat) (w' : World) (e : Ending) (R : Option (Int × List Nat)) : Prop := ∃ A' c', e = .returned (.tuple #[.int .i64 (R.getD (0, [])).1, .slice A' (R.getD (0, [])).2.length c', .bool R.isSome]) ∧ w'.ownsRow B 5 1 (.slice A' (R.getD (0, [])).2.length c') (R.getD (0, [])).2.length (by8 (R.getD (0, [])).2)
theorem TRes.no (B : Nat) (w' : World) {R : Option (Int × List Nat)} (h : R = none) : TRes B w' (.returned (.tuple #[.int .i64 0, .slice none 0 0, .bool false])) R := by
  subst h
  exact ⟨none, 0, rfl, own_nil _ _ _⟩
end Go.Proofs.Ytiggcpfmmgmncaa
end
section
namespace Go.Proofs.Ytiggcpfmmgmncaa
open Go.ChangeShapes Go.WideShapes Go.ChangeAt Go.RowKit
set_option linter.unusedVariables false
set_option linter.unusedSimpArgs false

theorem cut_rows {life era seq : Int} {b : List Nat} {R : List (List Nat)} (h : cutF life era seq b = (R, 0)) (ho : Oct b) : ∀ c ∈ R, Oct c ∧ c.length = 96 := by
  rcases cutF_ways life era seq b with ⟨n, hn, hb, hok, e⟩ | ⟨z, hz, e⟩
  · rw [h] at e
    injection e with e _
    subst e
    intro c hc
    obtain ⟨f, hf, rfl⟩ := List.mem_map.1 hc
    obtain ⟨j, hj, rfl⟩ := List.mem_map.1 hf
    have hjn := List.mem_range.1 hj
    have hok2 := (piece_ok hjn hb).trans hok
    have h10 := ((Fr.ok_iff _).1 hok2).2.2.2.2.2.2.2.2.2.2
    exact ⟨oct_sealed (Fr.body_oct hok2 (seg_oct ho _ _)), by rw [sealed_len, Fr.body_len h10]⟩
  · rw [h] at e
    injection e with _ e
    omega
theorem cutF_err {life era seq : Int} {b : List Nat} (h : (cutF life era seq b).2 ≠ 0) : (cutF life era seq b).2 = 6 ∨ (cutF life era seq b).2 = 2 := by
  rcases cutF_ways life era seq b with ⟨n, hn, hb, hok, e⟩ | ⟨z, hz, e⟩
  · rw [e] at h; exact absurd rfl h
  · rw [e]; exact hz
end Go.Proofs.Ytiggcpfmmgmncaa
end
section
namespace Go.Proofs.Ytiggcpfmmgmncaa
open Go.ChangeShapes Go.WideShapes Go.ChangeAt Go.RowKit
set_option linter.unusedVariables false
set_option linter.unusedSimpArgs false

theorem frB_zero : frB (List.replicate 96 0) = none := by decide +kernel
theorem frD_new (n : Nat) (i : Int) : frD (Dv.new n).S i = none := by
  unfold frD
  split
  · rename_i h
    have e : (Dv.new n).S.getD i.toNat [] = List.replicate 96 0 := by
      show (List.replicate n (List.replicate 96 0)).getD i.toNat [] = _
      have hl : (Dv.new n).S.length = n := by simp [Dv.new]
      rw [hl] at h
      rw [List.getD_eq_getElem?_getD, List.getElem?_replicate, if_pos (by omega)]; rfl
    rw [e, frB_zero]
  · rfl
theorem write_len (d : Dv) (p : Int) (cs : List (List Nat)) : (d.write p cs).1.S.length = d.S.length := by
  unfold Dv.write
  split
  · split
    · split
      · rfl
      · simp only [putK_len]
    · rfl
  · rfl
theorem prod_eta {α β : Type} {x : α × β} {b : β} (h : x.2 = b) : x = (x.1, b) := by
  cases x; subst h; rfl
end Go.Proofs.Ytiggcpfmmgmncaa
end
section
namespace Go.Proofs.Ytiggcpfmmgmncaa
open Go.ChangeShapes Go.WideShapes Go.ChangeAt Go.RowKit
set_option linter.unusedVariables false
set_option linter.unusedSimpArgs false

set_option maxRecDepth 100000 in
theorem live8_a : newestN (Dv.new 9).S 1 8 = 0 := by decide +kernel
set_option maxRecDepth 100000 in
theorem live8_b : scan (Dv.new 9).S 9 0 1 0 0 = ([], 1) := by decide +kernel
set_option maxRecDepth 100000 in
theorem live8_c : (cutF 1 0 ((0 + 1 : Nat) : Int) [97]).2 = 0 ∧ (cutF 1 0 ((0 + 1 : Nat) : Int) [97]).1.length = 1 := by decide +kernel
set_option maxRecDepth 100000 in
theorem live8_d : ((Dv.new 9).write 1 (cutF 1 0 ((0 + 1 : Nat) : Int) [97]).1).2 = 0 := by decide +kernel
set_option maxRecDepth 100000 in
theorem live8_e : newestN ((Dv.new 9).write 1 (cutF 1 0 ((0 + 1 : Nat) : Int) [97]).1).1.S 1 8 = 1 := by decide +kernel
set_option maxRecDepth 100000 in
theorem live8_f : scan ((Dv.new 9).write 1 (cutF 1 0 ((0 + 1 : Nat) : Int) [97]).1).1.S 9 0 1 0 0 = ([[97]], 2) := by decide +kernel
set_option maxRecDepth 100000 in
theorem live8_g : newestN ((Dv.new 9).write 1 (cutF 1 0 ((0 + 1 : Nat) : Int) [97]).1).1.S 0 9 = 1 := by decide +kernel
theorem live8_fact : ∃ (cs : List (List Nat)) (D : Dv), cutF 1 0 ((0 + 1 : Nat) : Int) [97] = (cs, 0) ∧ cs.length = 1 ∧ (Dv.new 9).write 1 cs = (D, 0) ∧ D.S.length = 9 ∧ newestN D.S 1 8 = 1 ∧ scan D.S 9 0 1 0 0 = ([[97]], 2) ∧ newestN D.S 0 9 = 1 :=
  ⟨_, _, prod_eta live8_c.1, live8_c.2, prod_eta live8_d, (write_len _ _ _).trans (by simp [Dv.new]), live8_e, live8_f, live8_g⟩
end Go.Proofs.Ytiggcpfmmgmncaa
end
