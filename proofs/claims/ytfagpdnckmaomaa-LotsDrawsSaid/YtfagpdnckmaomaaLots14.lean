/-
  Layer 18, fourteenth part: Join of both sides (laid by gen_lots14.py).
-/
import Derived.Test.YtfagpdnckmaomaaLtW
import Derived.Test.YtfagpdnckmaomaaLots6
import Derived.Test.YtfagpdnckmaomaaLots12
namespace Go.Proofs.Ytfagpdnckmaomaa
open Go.ChangeShapes Go.WideShapes Go.ChangeAt Go.RowKit
set_option linter.unusedVariables false
set_option linter.unusedSimpArgs false

theorem put_two (m : List Lt) (x : Lt) : (∃ m1, putLR m x = (0, m1)) ∨ (∃ n, n ≠ 0 ∧ putLR m x = (n, [])) := by
  by_cases h : (putLR m x).1 = 0
  · exact .inl ⟨_, Prod.ext h rfl⟩
  · exact .inr ⟨_, h, Prod.ext rfl (put_err m x h)⟩
theorem join_step {m m1 : List Lt} {x : Lt} {r : List Lt} {J : Int × List Lt} (h : joinF m (x :: r) = J) (hp : putLR m x = (0, m1)) : joinF m1 r = J := by
  rw [joinF, hp, if_pos rfl] at h; exact h
theorem join_stop {m : List Lt} {x : Lt} {r : List Lt} {J : Int × List Lt} {n : Int} (h : joinF m (x :: r) = J) (hp : putLR m x = (n, [])) (hn : n ≠ 0) : J = (n, []) := by
  rw [joinF, hp, if_neg hn] at h; exact h.symm
theorem putLR_in {m m1 : List Lt} {x : Lt} (hp : putLR m x = (0, m1)) (h : ∀ y ∈ m, In64 y.qty) : isLs m1 = true ∧ ∀ y ∈ m1, In64 y.qty := ⟨(put_is hp).1, (put_is hp).2.2.2 h⟩
theorem isLs_len {l : List Lt} (h : isLs l = true) : l.length ≤ 16 := ((isLs_iff l).1 h).2.1

set_option maxHeartbeats 8000000 in
set_option maxRecDepth 100000 in
theorem ljoin_any (A : Option Addr) (cap : Nat) (S : List (RowS Lt)) (w : World) (hl : S.length ≤ 1000000) (hn : (RowS.all S).length ≤ 900000) (hq : ∀ y ∈ RowS.all S, In64 y.qty) (hs : Sl w A (rc RowS.cells S)) (ho : RowsOk w Lt.cells S) :
    Calls Try.prog 58 #[.slice A S.length cap] w fun e w' => LRes w.heap.size w' e (joinF [] (RowS.all S)) ∧ Below w.heap.size w w' := by
  have HC := Lib.hid (concat_lt A cap S w hl hn hs ho)
  generalize RowS.all S = L at *
  obtain ⟨J, hJ⟩ : ∃ J, joinF [] L = J := ⟨_, rfl⟩
  have HJ := Lib.hid hJ
  have HQ := Lib.hid hq
  have HL := Lib.hid hn
  rw [hJ]
  clear hs ho hl hn hq hJ
  go_enter Try.func58, Try.ntmps58
  go_wp2_with fail
  refine HC.out.mono ?_
  rintro e w1 ⟨⟨A1, c1, rfl, own1⟩, hB1⟩
  have hs1 := Sl.of_own own1
  have hz1 := hB1.size
  clear own1 HC
  go_wp2_with fail
  go_loopw [4, 12] (fun av i wr => ∃ (k : Nat) (m : List Lt) (A2 : Option Addr) (c2 : Nat), k ≤ L.length ∧ i = .int .i64 k ∧ av = .slice A2 m.length c2 ∧ wr.ownsRow w1.heap.size 74 3 (.slice A2 m.length c2) m.length (rc Lt.cells m) ∧ isLs m = true ∧ (∀ y ∈ m, In64 y.qty) ∧ joinF m (L.drop k) = J ∧ Below w1.heap.size w1 wr) (fun _ i _ => L.length - (intOf i).toNat)
  case atStart => exact ⟨0, [], none, 0, by omega, rfl, rfl, own_nil _ _ _, rfl, (fun y hy => by cases hy), HJ.out, Below.refl _ _⟩
  case round =>
    obtain ⟨k, m, A2, c2, hk, rfl, rfl, own2, hm, hm6, hj, hB⟩ := hrel
    have hLn := HL.out
    by_cases hlt : k < L.length
    · obtain ⟨b, o, rfl, hbw, hg⟩ := (hs1.below hB).lt hlt
      have hlk : (k : Int) < (L.length : Int) := by omega
      have hx6 := HQ.out _ (List.getElem_mem hlt)
      have hj2 := hj
      rw [List.drop_eq_getElem_cons hlt] at hj2
      have hm16 := isLs_len hm
      have hA := since_alloc hB (.cells L[k].cells.toArray 74)
      generalize L[k] = v at *
      have HP := Lib.hid (fun V h => lput_any A2 c2 m v V (by omega) hx6 hm6 h)
      have HPI := Lib.hid (fun m1 hp => putLR_in (x := v) (m1 := m1) hp hm6)
      have hso := (Sl.of_own own2).alloc (.cells v.cells.toArray 74)
      have HJ2 := Lib.hid hj2
      rcases put_two m v with ⟨m1, hp⟩ | ⟨n, hn, hp⟩
      · rw [hp] at HP
        obtain ⟨i1, i6⟩ := HPI.out _ hp
        have HN := Lib.hid (join_step HJ2.out hp)
        have HI1 := Lib.hid i1
        have HI6 := Lib.hid i6
        clear hj hj2 hm hm6 hm16 HPI hp i1 i6 hx6 HJ2 own2
        obtain ⟨xa, xt, xq⟩ := v
        obtain ⟨g0, g1, g2⟩ := hg
        unfold Lt.val at HP
        unfold Lt.cells at hA hso
        simp only at g0 g1 g2 HP hA hso
        go_wp2_with fail
        refine (HP.out _ hso).mono ?_
        rintro e w2 ⟨⟨A5, c5, rfl, own5⟩, hb⟩
        have hB2 := since_step hA hb
        have own5 := own_base own5 hA.size
        go_wp2_with fail
        go_roundw
        case rel => exact ⟨k + 1, m1, A5, c5, by omega, by go_num, rfl, own5, HI1.out, HI6.out, HN.out, hB2⟩
        case measure => simp [intOf]; omega
      · rw [hp] at HP
        have HN := Lib.hid (join_stop HJ2.out hp hn)
        have hnb : (n == 0) = false := by simpa using hn
        clear hj hj2 hm hm6 hm16 HPI hp hx6 HJ2 own2 hn
        obtain ⟨xa, xt, xq⟩ := v
        obtain ⟨g0, g1, g2⟩ := hg
        unfold Lt.val at HP
        unfold Lt.cells at hA hso
        simp only at g0 g1 g2 HP hA hso
        go_wp2_with fail
        refine (HP.out _ hso).mono ?_
        rintro e w2 ⟨⟨A5, c5, rfl, own5⟩, hb⟩
        have hB2 := since_step hA hb
        go_wp2_with fail
        go_ret2
        rw [HN.out]
        exact ⟨LRes.nil _ _ _, hB1.trans (hB2.mono hz1)⟩
    · obtain rfl : k = L.length := by omega
      rw [List.drop_length] at hj
      have HN : Hid (J = (0, m)) := Lib.hid hj.symm
      clear hj hm hm6
      go_wp2_with fail
      go_ret2
      rw [HN.out]
      exact ⟨⟨A2, c2, rfl, own_base own2 hz1⟩, hB1.trans (hB.mono hz1)⟩

set_option maxHeartbeats 8000000 in
set_option maxRecDepth 100000 in
theorem rjoin_any (A : Option Addr) (cap : Nat) (S : List (RowS Lt)) (w : World) (hl : S.length ≤ 1000000) (hn : ∀ s ∈ S, s.l.length ≤ 900000) (hq : ∀ y ∈ RowS.all S, In64 y.qty) (hs : Sl w A (rc RowS.cells S)) (ho : RowsOk w Lt.cells S) :
    Calls Try.prog 59 #[.slice A S.length cap] w fun e w' => LRes w.heap.size w' e (joinF [] (RowS.all S)) ∧ Below w.heap.size w w' := by
  obtain ⟨J, hJ⟩ : ∃ J, joinF [] (RowS.all S) = J := ⟨_, rfl⟩
  have HJ := Lib.hid hJ
  have HQ : Hid (∀ s ∈ S, ∀ y ∈ s.l, In64 y.qty) := Lib.hid fun s hs y hy => hq y (by rw [RowS.all, List.mem_flatten]; exact ⟨s.l, List.mem_map.2 ⟨s, hs, rfl⟩, hy⟩)
  have HL := Lib.hid hn
  rw [hJ]
  clear hn hq hJ
  go_enter Try.func59, Try.ntmps59
  go_wp2_with fail
  go_loopw [4, 5] (fun av i wr => ∃ (k : Nat) (m : List Lt) (A2 : Option Addr) (c2 : Nat), k ≤ S.length ∧ i = .int .i64 k ∧ av = .slice A2 m.length c2 ∧ wr.ownsRow w.heap.size 74 3 (.slice A2 m.length c2) m.length (rc Lt.cells m) ∧ isLs m = true ∧ (∀ y ∈ m, In64 y.qty) ∧ joinF m (RowS.all (S.drop k)) = J ∧ Below w.heap.size w wr) (fun _ i _ => S.length - (intOf i).toNat)
  case atStart => exact ⟨0, [], none, 0, by omega, rfl, rfl, own_nil _ _ _, rfl, (fun y hy => by cases hy), HJ.out, Below.refl _ _⟩
  case round =>
    obtain ⟨i, m, A2, c2, hk, rfl, rfl, own2, hm, hm6, hj, hB⟩ := hrel
    by_cases hlt : i < S.length
    · have hli : (i : Int) < (S.length : Int) := by omega
      have hj2 := hj
      rw [List.drop_eq_getElem_cons hlt, RowS.all_cons] at hj2
      have hx6 := HQ.out _ (List.getElem_mem hlt)
      have hll := HL.out _ (List.getElem_mem hlt)
      have HX := Lib.hid hx6
      obtain ⟨b, o, rfl, hbw, hg⟩ := hs.rowS hlt
      have hin := ho S[i] (List.getElem_mem hlt)
      obtain ⟨s, hs1⟩ : ∃ s, S[i] = s := ⟨_, rfl⟩
      rw [hs1] at hj2 hll HX hin hg
      have HG : Hid (∀ V, Below w.heap.size w V → V.cell? ⟨b, o + i, none⟩ = some (.slice s.A s.l.length s.c)) := Lib.hid fun V hV => (hV.cell (p := ⟨b, o + i, none⟩) hbw).trans hg
      have HIN : Hid (∀ V, Below w.heap.size w V → Sl V s.A (rc Lt.cells s.l)) := Lib.hid fun V hV => hin.below hV
      have HJ2 := Lib.hid hj2
      have HM := Lib.hid hm
      have HM6 := Lib.hid hm6
      obtain ⟨R, hR⟩ : ∃ R, RowS.all (S.drop (i + 1)) = R := ⟨_, rfl⟩
      have HR := Lib.hid hR
      rw [hR] at HJ2
      clear hj hj2 hx6 hs1 hin hg hm hm6 hR
      generalize wr = wz at *
      go_wp2_with fail
      go_loopw [4, 6] (fun av k wr => ∃ (j : Nat) (m : List Lt) (A2 : Option Addr) (c2 : Nat), j ≤ s.l.length ∧ k = .int .i64 j ∧ av = .slice A2 m.length c2 ∧ wr.ownsRow w.heap.size 74 3 (.slice A2 m.length c2) m.length (rc Lt.cells m) ∧ isLs m = true ∧ (∀ y ∈ m, In64 y.qty) ∧ joinF m (s.l.drop j ++ R) = J ∧ Below w.heap.size w wr) (fun _ k _ => s.l.length - (intOf k).toNat)
      case atStart => exact ⟨0, m, A2, c2, by omega, rfl, rfl, own2, HM.out, HM6.out, HJ2.out, hB⟩
      case round =>
        clear own2 hB HJ2 HM HM6
        obtain ⟨k, m, A2, c2, hk2, rfl, rfl, own2, hm, hm6, hj, hB⟩ := hrel
        have hgr := HG.out _ hB
        by_cases hlt2 : k < s.l.length
        · have hlk : (k : Int) < (s.l.length : Int) := by omega
          have hll2 := hll
          have hx6 := HX.out _ (List.getElem_mem hlt2)
          have hj2 := hj
          rw [List.drop_eq_getElem_cons hlt2, List.cons_append] at hj2
          have hm16 := isLs_len hm
          obtain ⟨b2, o2, hbe, hbw2, hg⟩ := (HIN.out _ hB).lt hlt2
          rw [hbe] at hgr
          generalize s.l[k] = v at *
          have HP := Lib.hid (fun V h => rput_any A2 c2 m v V (by omega) hx6 hm6 h)
          have HPI := Lib.hid (fun m1 hp => putLR_in (x := v) (m1 := m1) hp hm6)
          have hso := Sl.of_own own2
          have HJ2 := Lib.hid hj2
          have hzz := hB.size
          rcases put_two m v with ⟨m1, hp⟩ | ⟨n, hn, hp⟩
          · rw [hp] at HP
            obtain ⟨i1, i6⟩ := HPI.out _ hp
            have HN := Lib.hid (join_step HJ2.out hp)
            have HI1 := Lib.hid i1
            have HI6 := Lib.hid i6
            clear hj hj2 hm hm6 hm16 HPI hp i1 i6 hx6 HJ2 own2
            obtain ⟨xa, xt, xq⟩ := v
            obtain ⟨g0, g1, g2⟩ := hg
            unfold Lt.val at HP
            simp only at g0 g1 g2 HP
            go_wp2_with fail
            refine (HP.out _ hso).mono ?_
            rintro e w2 ⟨⟨A5, c5, rfl, own5⟩, hb⟩
            have hB2 := since_step hB hb
            have own5 := own_base own5 hzz
            go_wp2_with fail
            go_roundw
            case rel => exact ⟨k + 1, m1, A5, c5, by omega, by go_num, rfl, own5, HI1.out, HI6.out, HN.out, hB2⟩
            case measure => simp [intOf]; omega
          · rw [hp] at HP
            have HN := Lib.hid (join_stop HJ2.out hp hn)
            have hnb : (n == 0) = false := by simpa using hn
            clear hj hj2 hm hm6 hm16 HPI hp hx6 HJ2 own2 hn
            obtain ⟨xa, xt, xq⟩ := v
            obtain ⟨g0, g1, g2⟩ := hg
            unfold Lt.val at HP
            simp only at g0 g1 g2 HP
            go_wp2_with fail
            refine (HP.out _ hso).mono ?_
            rintro e w2 ⟨⟨A5, c5, rfl, own5⟩, hb⟩
            have hB2 := since_step hB hb
            go_wp2_with fail
            go_ret2
            rw [HN.out]
            exact ⟨LRes.nil _ _ _, hB2⟩
        · obtain rfl : k = s.l.length := by omega
          rw [List.drop_length, List.nil_append] at hj
          have HN := Lib.hid hj
          have HM := Lib.hid hm
          have HM6 := Lib.hid hm6
          clear hj hm hm6
          go_wp2_with fail
          go_roundw
          case rel => exact ⟨i + 1, m, A2, c2, by omega, by go_num, rfl, own2, HM.out, HM6.out, by rw [HR.out]; exact HN.out, hB⟩
          case measure => simp [intOf]; omega
    · obtain rfl : i = S.length := by omega
      rw [List.drop_length] at hj
      have HN : Hid (J = (0, m)) := Lib.hid hj.symm
      clear hj hm hm6
      go_wp2_with fail
      go_ret2
      rw [HN.out]
      exact ⟨⟨A2, c2, rfl, own2⟩, hB⟩
end Go.Proofs.Ytfagpdnckmaomaa
