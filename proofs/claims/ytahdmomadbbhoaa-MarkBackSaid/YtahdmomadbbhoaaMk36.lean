import Derived.Test.YtahdmomadbbhoaaMk20
import Derived.Test.YtahdmomadbbhoaaMk33
import Derived.Test.YtahdmomadbbhoaaMk35
section
namespace Go.Proofs.Ytahdmomadbbhoaa
open Go.ChangeShapes Go.WideShapes Go.ChangeAt Go.RowKit
set_option linter.unusedVariables false
set_option linter.unusedSimpArgs false

set_option maxHeartbeats 16000000 in
set_option maxRecDepth 100000 in
theorem mflows_any (A : Option Addr) (cap : Nat) (l : List Iq) (is : List Ins) (PA : Option Addr) (pc : Nat) (lp : List Po) (cs : List Pc) (w : World) (hl : l.length ≤ 900000) (hcl : ∀ i ∈ is, i.mv.length ≤ 900000) (ho : OkT is) (hlp : lp.length ≤ 900000) (hpl : ∀ g ∈ cs, g.L.length ≤ 1000) (h6 : ∀ g ∈ cs, ∀ y ∈ g.L, In64 y.qty) (hs : Sl w A (rc Iq.cells l)) (ht : InTab w l is) (hp : Sl w PA (rc Po.cells lp)) (hpt : PoTab w lp cs) :
    Calls Try.prog 12 #[.slice A l.length cap, .slice PA lp.length pc] w fun e w' => PRes w' e (flowsR is cs) ∧ Below w.heap.size w w' := by
  have HIS := Lib.hid (his_any PA pc lp cs w hlp (fun g hg => Nat.le_trans (hpl g hg) (by omega)) hp hpt)
  have HSL : Hid (∀ V, Below w.heap.size w V → Sl V A (rc Iq.cells l)) := Lib.hid fun V hV => hs.below hV
  have HTB : Hid (∀ V, Below w.heap.size w V → InTab V l is) := Lib.hid fun V hV => ht.below hV
  have HSP : Hid (∀ V, Below w.heap.size w V → Sl V PA (rc Po.cells lp)) := Lib.hid fun V hV => hp.below hV
  have HPT : Hid (∀ V, Below w.heap.size w V → PoTab V lp cs) := Lib.hid fun V hV => hpt.below hV
  have HGN := Lib.hid (fun LA LC M V (hM : M.length ≤ 1000) (hM6 : ∀ y ∈ M, In64 y.qty) h1 h2 h3 => mgain_any A cap l is LA LC M V hl hcl ho hM hM6 h1 h2 h3)
  have HLN := Lib.hid hpt.1
  clear hs ht hp hpt
  cases hi : isH cs with
  | false =>
    have HR := Lib.hid (flowsR_form (is := is) hi)
    rw [hi] at HIS
    clear hi
    go_enter Try.func12, Try.ntmps12
    go_wp2_with fail
    refine HIS.out.mono ?_
    rintro e w1 ⟨rfl, hb⟩
    go_wp2_with fail
    go_ret2
    exact ⟨by rw [HR.out]; exact PRes.nil _ _, hb⟩
  | true =>
    rw [hi] at HIS
    have HG : Hid (∀ c ∈ cs, isG c.L = true) := Lib.hid fun c hc => ((okH_iff c).1 (((isH_iff cs).1 hi).1 c hc)).2
    have HER := Lib.hid (fun k n (hk : k < cs.length) hno hn he => flowsR_err (is := is) (k := k) (n := n) hi hk hno hn he)
    have HOK := Lib.hid (fun h => flowsR_ok (is := is) hi h)
    clear hi
    go_enter Try.func12, Try.ntmps12
    go_wp2_with fail
    refine HIS.out.mono ?_
    rintro e w1 ⟨rfl, hb⟩
    go_wp2_with fail
    go_loopw [6, 16] (fun out iv wr => ∃ (k : Nat) (O : List Fw) (A' : Option Addr) (c' : Nat), k ≤ cs.length ∧ iv = .int .i64 k ∧ out = .slice A' O.length c' ∧ O.length ≤ k ∧ O = outF is (cs.take k) ∧ (∀ j, (hj : j < cs.length) → j < k → (gbR is cs[j].L).2 = 0) ∧ wr.ownsRow w.heap.size 76 3 (.slice A' O.length c') O.length (rc Fw.cells O) ∧ Below w.heap.size w wr) (fun _ iv _ => cs.length - (intOf iv).toNat)
    case atStart => exact ⟨0, [], none, 0, by omega, rfl, rfl, by simp, rfl, fun j hj h => absurd h (by omega), own_nil _ _ _, hb⟩
    case round =>
      obtain ⟨k, O, A', c', hk, rfl, rfl, hOk, hO, hno, hown, hB⟩ := hrel
      have hln := HLN.out
      have HO := Lib.hid hO
      clear hO
      by_cases hlt : k < cs.length
      · have hltp : k < lp.length := by omega
        have hlk : (k : Int) < (lp.length : Int) := by omega
        have hge : (0 : Int) ≤ (k : Int) := by omega
        obtain ⟨b, o, rfl, hbw, hg⟩ := (HSP.out _ hB).po hltp
        have hpo := (HPT.out _ hB).2 k hltp hlt
        have hM6 := h6 cs[k] (List.getElem_mem hlt)
        have hMl := hpl cs[k] (List.getElem_mem hlt)
        have hGk := HG.out cs[k] (List.getElem_mem hlt)
        have HST := Lib.hid (outF_step is cs hlt)
        have HER := Lib.hid (fun n hn he => HER.out k n hlt hno hn he)
        have HNX : Hid ((gbR is cs[k].L).2 = 0 → ∀ j, (hj : j < cs.length) → j < k + 1 → (gbR is cs[j].L).2 = 0) := Lib.hid fun h j hj hjk => by
          rcases Nat.lt_or_ge j k with h' | h'
          · exact hno j hj h'
          · obtain rfl : j = k := by omega
            exact h
        clear hno
        generalize cs[k] = c at *
        generalize lp[k] = v at *
        obtain ⟨pa, pl, pL⟩ := c
        obtain ⟨va, vc, vt, vL, vC⟩ := v
        obtain ⟨e1, e2, e3, e4⟩ := hpo
        simp only at e1 e2 e3 e4 hM6 hMl hGk HST HER HNX
        subst e1; subst e2; subst e3
        obtain ⟨g0, g1, g2⟩ := hg
        simp only at g0 g1 g2
        have hBA := since_alloc hB (.cells #[.int .i64 va, .int .i64 vc, .slice vt pL.length vC] 58)
        have hGN := HGN.out vt vC pL _ hMl hM6 (HSL.out _ hBA) (HTB.out _ hBA) (e4.alloc _)
        rw [gnR_go hGk] at hGN
        have HGN := Lib.hid hGN
        have HK := Bk.new wr #[.int .i64 va, .int .i64 vc, .slice vt pL.length vC] 58
        have hownA := hown.alloc (.cells #[.int .i64 va, .int .i64 vc, .slice vt pL.length vC] 58)
        clear hGN e4 hln hM6 hMl hGk hown
        obtain ⟨x, ex, hgb⟩ : ∃ x ex, gbR is pL = (x, ex) := ⟨_, _, rfl⟩
        rw [hgb] at HGN HST HER HNX
        simp only at HGN HST HER HNX
        clear hgb
        by_cases hx : ex = 0
        · subst hx
          have HNO := Lib.hid (HNX.out rfl)
          clear HNX HER
          by_cases hz : x = 0
          · subst hz
            rw [if_pos rfl, List.append_nil] at HST
            have hq : ((0 : Int) != 0) = false := rfl
            go_wp2_with fail
            refine HGN.out.mono ?_
            rintro e u1 ⟨rfl, hb1⟩
            have hB3 := since_step hBA hb1
            have hown3 := own_below hownA hb1
            clear hb1 hownA HK
            go_wp2_with fail
            go_roundw
            case rel => exact ⟨k + 1, O, A', c', by omega, by go_num, rfl, by omega, by rw [HO.out]; exact HST.out.symm, HNO.out, hown3, hB3⟩
            case measure => simp [intOf]; omega
          · rw [if_neg hz] at HST
            have hq : (x != 0) = true := by simpa using hz
            go_wp2_with fail
            refine HGN.out.mono ?_
            rintro e u1 ⟨rfl, hb1⟩
            have hB3 := since_step hBA hb1
            have hown3 := own_below hownA hb1
            obtain ⟨hK_l, hK_c⟩ := id (HK.below hb1)
            have p0 := hK_c 0
            have p1 := hK_c 1
            simp at p0 p1
            clear hb1 hownA HK hK_c
            go_wp2_with (first
              | (at_builtin; refine wpList_app rfl (.tmp 32) (.tmp 37) rfl EFw rfl rfl (hown3.alloc _) (m := 1) (news := (⟨va, vc, x⟩ : Fw).cells) rfl (Sl.new_ _ _ _) (Fw.one _) (by unfold maxLen; omega) (by omega) (by simp only [World.size_alloc]; have := hB3.size; omega) ?_; intro A2 c2 w3 hown4 hg3 hb3)
              | fail)
            go_roundw
            case rel =>
              refine ⟨k + 1, O ++ [⟨va, vc, x⟩], A2, c2, by omega, by go_num, by simp, by simp; omega, by rw [HO.out]; exact HST.out.symm, HNO.out, ?_, (since_alloc hB3 _).trans hb3⟩
              rw [rc_append]; simpa [rc] using hown4
            case measure => simp [intOf]; omega
        · have HR := Lib.hid (HER.out ex rfl hx)
          have hq : (ex != 0) = true := by simpa using hx
          clear HER HNX HST hx
          go_wp2_with fail
          refine HGN.out.mono ?_
          rintro e u1 ⟨rfl, hb1⟩
          have hB3 := since_step hBA hb1
          clear hb1 hownA HK
          go_wp2_with fail
          go_ret2
          exact ⟨by rw [HR.out]; exact PRes.nil _ _, hB3⟩
      · obtain rfl : k = cs.length := by omega
        have hnl : ¬ ((cs.length : Int) < (lp.length : Int)) := by omega
        have hO := HO.out
        rw [List.take_length] at hO
        have HO := Lib.hid hO
        clear hO
        have HR := Lib.hid (HOK.out fun j hj => hno j hj hj)
        clear hno
        go_wp2_with fail
        go_ret2
        refine ⟨?_, hB⟩
        rw [HR.out, ← HO.out]
        exact ⟨A', c', rfl, Sl.of_own hown⟩
set_option maxHeartbeats 8000000 in
set_option maxRecDepth 100000 in
theorem msettle_any (A : Option Addr) (cap : Nat) (l : List Iq) (is : List Ins) (PA : Option Addr) (pc : Nat) (lp : List Po) (cs : List Pc) (FA : Option Addr) (fc : Nat) (p : List Fw) (w : World) (hl : l.length ≤ 900000) (hcl : ∀ i ∈ is, i.mv.length ≤ 900000) (ho : OkT is) (hlp : lp.length ≤ 900000) (hpl : ∀ g ∈ cs, g.L.length ≤ 1000) (h6 : ∀ g ∈ cs, ∀ y ∈ g.L, In64 y.qty) (hs : Sl w A (rc Iq.cells l)) (ht : InTab w l is) (hp : Sl w PA (rc Po.cells lp)) (hpt : PoTab w lp cs) (hcs : cs.length ≤ 10000) (hkey : ∀ c ∈ cs, In64 c.ac ∧ In64 c.cl) (hpn : p.length ≤ 10000) (hpi : ∀ x ∈ p, Fw.in_ x) (hpf : Sl w FA (rc Fw.cells p)) :
    Calls Try.prog 14 #[.slice A l.length cap, .slice PA lp.length pc, .slice FA p.length fc] w fun e w' => PRes w' e (settR is cs p) ∧ Below w.heap.size w w' := by
  have HIS := Lib.hid (pis_any FA fc p w (by omega) hpf)
  have HFL := Lib.hid (fun V (hb : Below w.heap.size w V) => mflows_any A cap l is PA pc lp cs V hl hcl ho hlp hpl h6 (hs.below hb) (ht.below hb) (hp.below hb) (hpt.below hb))
  have HSF : Hid (∀ V, Below w.heap.size w V → Sl V FA (rc Fw.cells p)) := Lib.hid fun V hV => hpf.below hV
  have hol := flowsR_len is cs
  have hoi := flowsR_in (is := is) hkey
  clear hs ht hp hpt hpf hl hcl ho hlp hpl h6 hkey
  obtain ⟨n, O, hO⟩ : ∃ n O, flowsR is cs = (n, O) := ⟨_, _, rfl⟩
  rw [hO] at hol hoi HFL
  simp only at hol hoi
  cases hi : isF p with
  | false =>
    have HR := Lib.hid (settR_form (is := is) (cs := cs) hi)
    rw [hi] at HIS
    clear hi hO hol hoi
    go_enter Try.func14, Try.ntmps14
    go_wp2_with fail
    refine HIS.out.mono ?_
    rintro e w1 ⟨rfl, hb⟩
    go_wp2_with fail
    go_ret2
    exact ⟨by rw [HR.out]; exact PRes.nil _ _, hb⟩
  | true =>
    rw [hi] at HIS
    by_cases hn : n = 0
    · subst hn
      have HR := Lib.hid (settR_ok hi hO)
      have HPY := Lib.hid (fun A2 c2 V h1 h2 => ppay_any FA A2 fc c2 p O V (by omega) (by omega) (fun x hx => (List.mem_append.1 hx).elim (hpi x) (hoi x)) h1 h2)
      clear hi hO hol hoi hpi hpn hcs
      go_enter Try.func14, Try.ntmps14
      go_wp2_with fail
      refine HIS.out.mono ?_
      rintro e w1 ⟨rfl, hb⟩
      go_wp2_with fail
      refine (HFL.out _ hb).mono ?_
      rintro e w2 ⟨⟨A2, c2, rfl, hs2⟩, hb2⟩
      have hB2 := since_step hb hb2
      simp only at hs2 ⊢
      clear hb hb2
      go_wp2_with fail
      refine (HPY.out A2 c2 _ (HSF.out _ hB2) hs2).mono ?_
      rintro e w3 ⟨⟨A3, c3, rfl, hs3⟩, hb3⟩
      have hB3 := since_step hB2 hb3
      clear hB2 hb3 hs2
      go_wp2_with fail
      go_ret2
      exact ⟨by rw [HR.out]; exact ⟨A3, c3, rfl, hs3⟩, hB3⟩
    · have HR := Lib.hid (settR_err hi hO hn)
      have hq : (n != 0) = true := by simpa using hn
      clear hi hO hol hoi hpi hpn hcs hn
      go_enter Try.func14, Try.ntmps14
      go_wp2_with fail
      refine HIS.out.mono ?_
      rintro e w1 ⟨rfl, hb⟩
      go_wp2_with fail
      refine (HFL.out _ hb).mono ?_
      rintro e w2 ⟨⟨A2, c2, rfl, hs2⟩, hb2⟩
      have hB2 := since_step hb hb2
      simp only at hs2 ⊢
      clear hb hb2
      go_wp2_with fail
      go_ret2
      exact ⟨by rw [HR.out]; exact PRes.nil _ _, hB2⟩
end Go.Proofs.Ytahdmomadbbhoaa
end
