import Derived.Deep.CutBlock
import Derived.Deep.CutRange
import Derived.Deep.DeepCutAuto
import Derived.Test.YtahdmomadbbhoaaGreatDg12
import Derived.Test.YtahdmomadbbhoaaGreatDg13
import Derived.Test.YtahdmomadbbhoaaGreatDg37
import Derived.Test.YtahdmomadbbhoaaGreatDg46
import Derived.Test.YtahdmomadbbhoaaGreatDg47
section
namespace Go.Proofs.YtahdmomadbbhoaaGreat
open Go.ChangeShapes Go.WideShapes Go.ChangeAt Go.RowKit
set_option linter.unusedVariables false
set_option linter.unusedSimpArgs false

def DB (w : World) (g : Nat) : Prop := Bk w g #[.slice none 0 0, .slice none 0 0] ∧ w.frozen? ⟨g, 0, none⟩ = false ∧ w.frozen? ⟨g, 1, none⟩ = false
theorem DB.new (w : World) (t : TypeId) : DB (w.alloc (.cells #[.slice none 0 0, .slice none 0 0] t)) w.heap.size := ⟨Bk.new _ _ _, by simp, by simp⟩
theorem DB.below {w w' : World} {g : Nat} (h : DB w g) (hb : Below w.heap.size w w') : DB w' g := ⟨h.1.below hb, (hb.frozen (p := ⟨g, 0, none⟩) h.1.1).trans h.2.1, (hb.frozen (p := ⟨g, 1, none⟩) h.1.1).trans h.2.2⟩
theorem DB.got {w : World} {g : Nat} (h : DB w g) : g < w.heap.size ∧ w.cell? ⟨g, 0, none⟩ = some (.slice none 0 0) ∧ w.cell? ⟨g, 1, none⟩ = some (.slice none 0 0) ∧ w.frozen? ⟨g, 0, none⟩ = false ∧ w.frozen? ⟨g, 1, none⟩ = false := ⟨h.1.1, h.1.2 0, h.1.2 1, h.2.1, h.2.2⟩
def IntHead (xs : List Value) : Prop := ∀ v, xs[0]? = some v → ∃ i, v = .int .i64 i
theorem DB.away {w : World} {g : Nat} (hb : DB w g) {A : Option Addr} {xs : List Value} (h : Sl w A xs) (hx : IntHead xs) (hne : xs ≠ []) : ∀ b o, A = some ⟨b, o, none⟩ → b ≠ g := by
  intro b o hA he
  cases xs with
  | nil => exact hne rfl
  | cons x r =>
    obtain ⟨i, rfl⟩ := hx x rfl
    obtain ⟨b', o', hA', hc⟩ := h.at_ (j := 0) (by simp)
    rw [hA] at hA'
    injection hA' with hA'
    injection hA' with e1 e2
    subst e1; subst e2; subst he
    have h2 := hb.1.2 (o + 0)
    rw [h2] at hc
    rcases o with _ | _ | o <;> simp at hc
theorem Sl.off2 {w : World} {g : Nat} {A : Option Addr} {xs : List Value} (h : Sl w A xs) (hb : DB w g) (hx : IntHead xs) (u v : Value) : Sl ((w.setCell ⟨g, 0, none⟩ u).setCell ⟨g, 1, none⟩ v) A xs := by
  by_cases hne : xs = []
  · subst hne; exact Sl.nil
  · have ha := hb.away h hx hne
    exact (h.far (p := ⟨g, 0, none⟩) ha u).far (p := ⟨g, 1, none⟩) ha v
theorem head_po (l : List Po) : IntHead (rc Po.cells l) := by
  intro v hv
  cases l with
  | nil => simp [rc] at hv
  | cons x r => rw [rc_cons] at hv; injection hv with hv; exact ⟨_, hv.symm⟩
theorem head_fw (l : List Fw) : IntHead (rc Fw.cells l) := by
  intro v hv
  cases l with
  | nil => simp [rc] at hv
  | cons x r => rw [rc_cons] at hv; injection hv with hv; exact ⟨_, hv.symm⟩
theorem head_lg (l : List Lg) : IntHead (rc Lg.cells l) := by
  intro v hv
  cases l with
  | nil => simp [rc] at hv
  | cons x r => rw [rc_cons] at hv; injection hv with hv; exact ⟨_, hv.symm⟩
theorem PoTab.off2 {w : World} {g : Nat} {l : List Po} {cs : List Pc} (h : PoTab w l cs) (hb : DB w g) (u v : Value) : PoTab ((w.setCell ⟨g, 0, none⟩ u).setCell ⟨g, 1, none⟩ v) l cs :=
  ⟨h.1, fun k h1 h2 => ⟨(h.2 k h1 h2).ac, (h.2 k h1 h2).cl, (h.2 k h1 h2).len, (h.2 k h1 h2).sl.off2 hb (head_lg _) u v⟩⟩
structure Dk (w : World) (A : Option Addr) (l : List Po) (cs : List Pc) (FA : Option Addr) (p : List Fw) : Prop where
  s : Sl w A (rc Po.cells l)
  t : PoTab w l cs
  f : Sl w FA (rc Fw.cells p)
theorem Dk.below {w w' : World} {A FA : Option Addr} {l : List Po} {cs : List Pc} {p : List Fw} (h : Dk w A l cs FA p) (hb : Below w.heap.size w w') : Dk w' A l cs FA p := ⟨h.s.below hb, h.t.below hb, h.f.below hb⟩
theorem Dk.off2 {w : World} {g : Nat} {A FA : Option Addr} {l : List Po} {cs : List Pc} {p : List Fw} (h : Dk w A l cs FA p) (hb : DB w g) (u v : Value) : Dk ((w.setCell ⟨g, 0, none⟩ u).setCell ⟨g, 1, none⟩ v) A l cs FA p := ⟨h.s.off2 hb (head_po _) u v, h.t.off2 hb u v, h.f.off2 hb (head_fw _) u v⟩
theorem Dk.nil (w : World) : Dk w none [] [] none [] := ⟨Sl.nil, PoTab.nil _, Sl.nil⟩
def DRes (w' : World) (e : Ending) (n : Int) (B : List Pc) (P : List Fw) : Prop :=
  ∃ (l : List Po) (A' : Option Addr) (c' : Nat) (A2 : Option Addr) (c2 : Nat), e = .returned (.tuple #[.agg #[.slice A' l.length c', .slice A2 P.length c2], .int .i64 n]) ∧ Dk w' A' l B A2 P
theorem DRes.nil (w' : World) (n : Int) : DRes w' (.returned (.tuple #[.agg #[.slice none 0 0, .slice none 0 0], .int .i64 n])) n [] [] := ⟨[], none, 0, none, 0, rfl, Dk.nil _⟩
set_option maxHeartbeats 8000000 in
set_option maxRecDepth 100000 in
theorem dis_any (A : Option Addr) (cap : Nat) (l : List Po) (cs : List Pc) (FA : Option Addr) (fc : Nat) (p : List Fw) (w : World) (hl : l.length ≤ 900000) (hcl : ∀ g ∈ cs, g.L.length ≤ 900000) (hp : p.length ≤ 900000) (hd : Dk w A l cs FA p) :
    Calls Tryz.prog 12 #[.agg #[.slice A l.length cap, .slice FA p.length fc]] w fun e w' => e = .returned (.bool (isH cs && isF p)) ∧ Below w.heap.size w w' := by
  have hB0 := since_alloc (Below.refl _ w) (.cells #[.slice A l.length cap, .slice FA p.length fc] 30)
  have HK := Bk.new w #[.slice A l.length cap, .slice FA p.length fc] 30
  have HI := Lib.hid (his_any A cap l cs _ hl hcl (hd.below hB0).s (hd.below hB0).t)
  have HF := Lib.hid (fun V (hb : Below w.heap.size w V) => pis_any FA fc p V (by omega) (hd.below hb).f)
  clear hd
  go_enter Tryz.func12, Tryz.ntmps12
  go_upto_region 1 with fail
  generalize hWW : w.alloc (.cells #[.slice A l.length cap, .slice FA p.length fc] 30) = W at *
  clear hWW
  have d0 := HK.2 0
  have d1 := HK.2 1
  simp at d0 d1
  cases hi : isH cs with
  | false =>
    rw [hi] at HI
    have HI0 := Lib.hid hi
    clear hi
    go_wp2_with fail
    refine HI.out.mono ?_
    rintro e z1 ⟨rfl, hb⟩
    have hB1 := since_step hB0 hb
    clear d0 d1
    go_wp2_with fail
    go_ret
    exact ⟨by rw [HI0.out]; rfl, hB1⟩
  | true =>
    rw [hi] at HI
    have HI0 := Lib.hid hi
    clear hi
    go_wp2_with fail
    refine HI.out.mono ?_
    rintro e z1 ⟨rfl, hb⟩
    have hB1 := since_step hB0 hb
    have HK := HK.below hb
    clear d0 d1
    have d0 := HK.2 0
    have d1 := HK.2 1
    simp at d0 d1
    go_wp2_with fail
    refine (HF.out _ hB1).mono ?_
    rintro e z2 ⟨rfl, hb2⟩
    have hB2 := since_step hB1 hb2
    clear d0 d1
    go_wp2_with fail
    go_ret
    exact ⟨by rw [HI0.out]; cases isF p <;> rfl, hB2⟩
set_option maxHeartbeats 8000000 in
set_option maxRecDepth 100000 in
theorem rdis_any (A : Option Addr) (cap : Nat) (l : List Po) (cs : List Pc) (FA : Option Addr) (fc : Nat) (p : List Fw) (w : World) (hl : l.length ≤ 900000) (hcl : ∀ g ∈ cs, g.L.length ≤ 900000) (hp : p.length ≤ 900000) (hd : Dk w A l cs FA p) :
    Calls Tryz.prog 13 #[.agg #[.slice A l.length cap, .slice FA p.length fc]] w fun e w' => e = .returned (.bool (isH cs && isF p)) ∧ Below w.heap.size w w' := by
  have hB0 := since_alloc (Below.refl _ w) (.cells #[.slice A l.length cap, .slice FA p.length fc] 36)
  have HK := Bk.new w #[.slice A l.length cap, .slice FA p.length fc] 36
  have HI := Lib.hid (rhis_any A cap l cs _ hl hcl (hd.below hB0).s (hd.below hB0).t)
  have HF := Lib.hid (fun V (hb : Below w.heap.size w V) => rpis_any FA fc p V (by omega) (hd.below hb).f)
  clear hd
  go_enter Tryz.func13, Tryz.ntmps13
  go_upto_region 1 with fail
  generalize hWW : w.alloc (.cells #[.slice A l.length cap, .slice FA p.length fc] 36) = W at *
  clear hWW
  have d0 := HK.2 0
  have d1 := HK.2 1
  simp at d0 d1
  cases hi : isH cs with
  | false =>
    rw [hi] at HI
    have HI0 := Lib.hid hi
    clear hi
    go_wp2_with fail
    refine HI.out.mono ?_
    rintro e z1 ⟨rfl, hb⟩
    have hB1 := since_step hB0 hb
    clear d0 d1
    go_wp2_with fail
    go_ret
    exact ⟨by rw [HI0.out]; rfl, hB1⟩
  | true =>
    rw [hi] at HI
    have HI0 := Lib.hid hi
    clear hi
    go_wp2_with fail
    refine HI.out.mono ?_
    rintro e z1 ⟨rfl, hb⟩
    have hB1 := since_step hB0 hb
    have HK := HK.below hb
    clear d0 d1
    have d0 := HK.2 0
    have d1 := HK.2 1
    simp at d0 d1
    go_wp2_with fail
    refine (HF.out _ hB1).mono ?_
    rintro e z2 ⟨rfl, hb2⟩
    have hB2 := since_step hB1 hb2
    clear d0 d1
    go_wp2_with fail
    go_ret
    exact ⟨by rw [HI0.out]; cases isF p <;> rfl, hB2⟩
set_option maxHeartbeats 8000000 in
set_option maxRecDepth 100000 in
theorem rdsame_self (A : Option Addr) (cap : Nat) (l : List Po) (FA : Option Addr) (fc : Nat) (A2 : Option Addr) (cap2 : Nat) (l2 : List Po) (FA2 : Option Addr) (fc2 : Nat) (cs : List Pc) (p : List Fw) (w : World) (hl : l.length ≤ 900000) (hcl : ∀ g ∈ cs, g.L.length ≤ 900000) (hp : p.length ≤ 900000) (hd : Dk w A l cs FA p) (hd2 : Dk w A2 l2 cs FA2 p) :
    Calls Tryz.prog 11 #[.agg #[.slice A l.length cap, .slice FA p.length fc], .agg #[.slice A2 l2.length cap2, .slice FA2 p.length fc2]] w fun e w' => e = .returned (.bool true) ∧ Below w.heap.size w w' := by
  have hB0 := since_alloc (since_alloc (Below.refl _ w) (.cells #[.slice A l.length cap, .slice FA p.length fc] 36)) (.cells #[.slice A2 l2.length cap2, .slice FA2 p.length fc2] 36)
  have HK := (Bk.new w #[.slice A l.length cap, .slice FA p.length fc] 36).alloc (.cells #[.slice A2 l2.length cap2, .slice FA2 p.length fc2] 36)
  have HJ := Bk.new (w.alloc (.cells #[.slice A l.length cap, .slice FA p.length fc] 36)) #[.slice A2 l2.length cap2, .slice FA2 p.length fc2] 36
  rw [World.size_alloc] at HJ
  have HI := Lib.hid (fun V (hb : Below w.heap.size w V) => rhsame_self A cap l A2 cap2 l2 cs V hl hcl (hd.below hb).s (hd.below hb).t (hd2.below hb).s (hd2.below hb).t)
  have HF := Lib.hid (fun V (hb : Below w.heap.size w V) => rpsame_any_self FA FA2 fc fc2 p V (by omega) (hd.below hb).f (hd2.below hb).f)
  clear hd hd2
  go_enter Tryz.func11, Tryz.ntmps11
  go_upto_region 1 with fail
  generalize hWW : (w.alloc (.cells #[.slice A l.length cap, .slice FA p.length fc] 36)).alloc (.cells #[.slice A2 l2.length cap2, .slice FA2 p.length fc2] 36) = W at *
  clear hWW
  have d0 := HK.2 0
  have d1 := HK.2 1
  have e0 := HJ.2 0
  have e1 := HJ.2 1
  simp at d0 d1 e0 e1
  go_wp2_with fail
  refine (HI.out _ hB0).mono ?_
  rintro e z1 ⟨rfl, hb⟩
  have hB1 := since_step hB0 hb
  have HK := HK.below hb
  have HJ := HJ.below hb
  clear d0 d1 e0 e1
  have d0 := HK.2 0
  have d1 := HK.2 1
  have e0 := HJ.2 0
  have e1 := HJ.2 1
  simp at d0 d1 e0 e1
  go_wp2_with fail
  refine (HF.out _ hB1).mono ?_
  rintro e z2 ⟨rfl, hb2⟩
  have hB2 := since_step hB1 hb2
  go_wp2_with fail
  go_ret
  exact ⟨rfl, hB2⟩
set_option maxHeartbeats 8000000 in
set_option maxRecDepth 100000 in
theorem dcheck_any (i : Ins) (A : Option Addr) (c : Nat) (q pr : Int) (w : World) (h : InsAt w i A c) :
    Calls Tryz.prog 30 #[insV i A c, .int .i64 q, .int .i64 pr] w fun e w' => e = .returned (.int .i64 (if dchk i q pr = true then 0 else 2)) ∧ Below w.heap.size w w' := by
  have hB0 := since_alloc (Below.refl _ w) (.cells #[.int .i64 i.id, .int .i64 i.mult, .int .i64 i.price, .int .i64 i.nxt, .slice A i.mv.length c] 26)
  have hC := check_any i A c _ (h.below hB0)
  unfold insV at hC ⊢
  obtain ⟨R, hR⟩ : ∃ R, (if dchk i q pr = true then (0 : Int) else 2) = R := ⟨_, rfl⟩
  rw [hR]
  have HRR := Lib.hid hR
  clear hR
  go_enter Tryz.func30, Tryz.ntmps30
  by_cases h1 : okB i = true
  · rw [if_pos h1] at hC
    have HC := Lib.hid hC
    clear hC
    by_cases h2 : pr < 0
    · have HR : Hid (R = 2) := Lib.hid (by rw [← HRR.out]; rw [if_neg]; rw [dchk_iff]; unfold prB; simp only [Bool.and_eq_true, decide_eq_true_eq]; omega)
      have b1 : decide (pr < 0) = true := decide_eq_true h2
      clear h h1
      go_wp2_with fail
      refine HC.out.mono ?_
      rintro e z1 ⟨rfl, hb⟩
      have hB1 := since_step hB0 hb
      go_wp2_with fail
      go_ret
      exact ⟨by rw [HR.out]; rfl, hB1⟩
    · have b1 : decide (pr < 0) = false := decide_eq_false h2
      by_cases h3 : 2147483647 < pr
      · have HR : Hid (R = 2) := Lib.hid (by rw [← HRR.out]; rw [if_neg]; rw [dchk_iff]; unfold prB; simp only [Bool.and_eq_true, decide_eq_true_eq]; omega)
        have b2 : decide (2147483647 < pr) = true := decide_eq_true h3
        clear h h1
        go_wp2_with fail
        refine HC.out.mono ?_
        rintro e z1 ⟨rfl, hb⟩
        have hB1 := since_step hB0 hb
        go_wp2_with fail
        go_ret
        exact ⟨by rw [HR.out]; rfl, hB1⟩
      · have b2 : decide (2147483647 < pr) = false := decide_eq_false h3
        by_cases h4 : q = 0
        · have HR : Hid (R = 2) := Lib.hid (by rw [← HRR.out]; rw [if_neg]; rw [dchk_iff]; unfold prB; simp only [Bool.and_eq_true, decide_eq_true_eq]; omega)
          have b3 : (q == 0) = true := by simpa using h4
          clear h h1 h4
          go_wp2_with fail
          refine HC.out.mono ?_
          rintro e z1 ⟨rfl, hb⟩
          have hB1 := since_step hB0 hb
          go_wp2_with fail
          go_ret
          exact ⟨by rw [HR.out]; rfl, hB1⟩
        · have b3 : (q == 0) = false := by simpa using h4
          by_cases h5 : q < -1099511627776
          · have HR : Hid (R = 2) := Lib.hid (by rw [← HRR.out]; rw [if_neg]; rw [dchk_iff]; unfold prB; simp only [Bool.and_eq_true, decide_eq_true_eq]; omega)
            have b4 : decide (q < -1099511627776) = true := decide_eq_true h5
            clear h h1
            go_wp2_with fail
            refine HC.out.mono ?_
            rintro e z1 ⟨rfl, hb⟩
            have hB1 := since_step hB0 hb
            go_wp2_with fail
            go_ret
            exact ⟨by rw [HR.out]; rfl, hB1⟩
          · have b4 : decide (q < -1099511627776) = false := decide_eq_false h5
            by_cases h6 : 1099511627776 < q
            · have HR : Hid (R = 2) := Lib.hid (by rw [← HRR.out]; rw [if_neg]; rw [dchk_iff]; unfold prB; simp only [Bool.and_eq_true, decide_eq_true_eq]; omega)
              have b5 : decide (1099511627776 < q) = true := decide_eq_true h6
              clear h h1
              go_wp2_with fail
              refine HC.out.mono ?_
              rintro e z1 ⟨rfl, hb⟩
              have hB1 := since_step hB0 hb
              go_wp2_with fail
              go_ret
              exact ⟨by rw [HR.out]; rfl, hB1⟩
            · have HR : Hid (R = 0) := Lib.hid (by rw [← HRR.out]; rw [if_pos]; rw [dchk_iff]; unfold prB; simp only [Bool.and_eq_true, decide_eq_true_eq]; exact ⟨h1, by omega, h4, by omega, by omega⟩)
              have b5 : decide (1099511627776 < q) = false := decide_eq_false h6
              clear h h1
              go_wp2_with fail
              refine HC.out.mono ?_
              rintro e z1 ⟨rfl, hb⟩
              have hB1 := since_step hB0 hb
              go_wp2_with fail
              go_ret
              exact ⟨by rw [HR.out]; rfl, hB1⟩
  · rw [if_neg h1] at hC
    have HC := Lib.hid hC
    have HR : Hid (R = 2) := Lib.hid (by rw [← HRR.out]; rw [if_neg]; rw [dchk_iff]; exact fun h => h1 h.1)
    clear hC h h1
    go_wp2_with fail
    refine HC.out.mono ?_
    rintro e z1 ⟨rfl, hb⟩
    have hB1 := since_step hB0 hb
    go_wp2_with fail
    go_ret
    exact ⟨by rw [HR.out]; rfl, hB1⟩
set_option maxHeartbeats 4000000 in
set_option maxRecDepth 100000 in
theorem dcost_any (i : Ins) (A : Option Addr) (c : Nat) (q pr : Int) (w : World) (h : InsAt w i A c) (hq : In64 q) (hp : In64 pr) :
    Calls Tryz.prog 14 #[insV i A c, .int .i64 q, .int .i64 pr] w fun e w' => e = .returned (.tuple #[.int .i64 (gainV i q 0 pr), .int .i64 (gainE i q 0 pr)]) ∧ Below w.heap.size w w' := by
  have hB0 := since_alloc (Below.refl _ w) (.cells #[.int .i64 i.id, .int .i64 i.mult, .int .i64 i.price, .int .i64 i.nxt, .slice A i.mv.length c] 26)
  have hC := gain_any i A c q 0 pr _ (h.below hB0) hq (by unfold In64; omega) hp
  unfold insV at hC ⊢
  have HC := Lib.hid hC
  clear hC h
  generalize gainV i q 0 pr = gv at *
  generalize gainE i q 0 pr = ge at *
  go_enter Tryz.func14, Tryz.ntmps14
  go_wp2_with fail
  refine HC.out.mono ?_
  rintro e z1 ⟨rfl, hb⟩
  have hB1 := since_step hB0 hb
  go_wp2_with fail
  go_ret2
  exact ⟨rfl, hB1⟩
set_option maxHeartbeats 4000000 in
set_option maxRecDepth 100000 in
theorem plain_any (A : Option Addr) (n cap : Nat) (FA : Option Addr) (m fc : Nat) (w : World) :
    Calls Tryz.prog 10 #[.agg #[.slice A n cap, .slice FA m fc]] w fun e w' => e = .returned (.agg #[.slice A n cap, .slice FA m fc]) ∧ Below w.heap.size w w' := by
  have hcs := @cell_set
  have hB0 := since_alloc (Below.refl _ w) (.cells #[.slice A n cap, .slice FA m fc] 30)
  go_enter Tryz.func10, Tryz.ntmps10
  go_wp2
  refine bodyPost_ret (v := .agg #[.slice A n cap, .slice FA m fc]) ?_ rfl ?_
  · simp [results, Tryz.results10, go_sem]
  · refine ⟨rfl, ?_⟩
    repeat' (first | with_reducible exact hB0 | with_reducible exact Below.refl _ _ | with_reducible refine Below.setCell ?_ ?_ _ | with_reducible refine since_alloc ?_ _)
    all_goals first | (simp; done) | (simp; omega)
def oneI (i : Ins) : Ins := ⟨i.id, i.mult, i.price, i.nxt, i.mv.take 9⟩
theorem InsAt.one {w : World} {i : Ins} {A : Option Addr} {c : Nat} (h : InsAt w i A c) : InsAt w (oneI i) A c :=
  ⟨⟨by have := h.cap.1; simp [oneI]; omega, h.cap.2⟩, sl_takeI h.sl 9, h.mv64.takeI 9, h.n64⟩
set_option maxHeartbeats 4000000 in
set_option maxRecDepth 100000 in
theorem one21_any (i : Ins) (A : Option Addr) (c : Nat) (w : World) (h : InsAt w i A c) :
    Calls Tryz.prog 7 #[insV i A c] w fun e w' => e = .returned (insV (oneI i) A c) ∧ Below w.heap.size w w' := by
  have hcs := @cell_set
  have hB0 := since_alloc (Below.refl _ w) (.cells #[.int .i64 i.id, .int .i64 i.mult, .int .i64 i.price, .int .i64 i.nxt, .slice A i.mv.length c] 26)
  have hc1 := h.cap.1
  by_cases h12 : 9 < i.mv.length
  · have e : (i.mv.take 9).length = 9 := by simp; omega
    rw [show insV (oneI i) A c = .agg #[.int .i64 i.id, .int .i64 i.mult, .int .i64 i.price, .int .i64 i.nxt, .slice A (i.mv.take 9).length c] from rfl, e]
    unfold insV
    obtain ⟨b, o, rfl, hz0⟩ := h.sl.int (show 0 < i.mv.length by omega)
    have h12c : 9 ≤ c := by omega
    clear hz0 h e
    go_enter Tryz.func7, Tryz.ntmps7
    go_wp2
    refine bodyPost_ret (v := .agg #[.int .i64 i.id, .int .i64 i.mult, .int .i64 i.price, .int .i64 i.nxt, .slice (some ⟨b, o, none⟩) 9 c]) ?_ rfl ?_
    · simp [results, Tryz.results7, go_sem]
    · refine ⟨rfl, ?_⟩
      repeat' (first | with_reducible exact hB0 | with_reducible exact Below.refl _ _ | with_reducible refine Below.setCell ?_ ?_ _ | with_reducible refine since_alloc ?_ _)
      all_goals first | (simp; done) | (simp; omega)
  · have e : (i.mv.take 9).length = i.mv.length := by rw [List.length_take]; omega
    rw [show insV (oneI i) A c = .agg #[.int .i64 i.id, .int .i64 i.mult, .int .i64 i.price, .int .i64 i.nxt, .slice A (i.mv.take 9).length c] from rfl, e]
    unfold insV
    clear h e
    go_enter Tryz.func7, Tryz.ntmps7
    go_wp2
    refine bodyPost_ret (v := .agg #[.int .i64 i.id, .int .i64 i.mult, .int .i64 i.price, .int .i64 i.nxt, .slice A i.mv.length c]) ?_ rfl ?_
    · simp [results, Tryz.results7, go_sem]
    · refine ⟨rfl, ?_⟩
      repeat' (first | with_reducible exact hB0 | with_reducible exact Below.refl _ _ | with_reducible refine Below.setCell ?_ ?_ _ | with_reducible refine since_alloc ?_ _)
      all_goals first | (simp; done) | (simp; omega)
end Go.Proofs.YtahdmomadbbhoaaGreat
end
