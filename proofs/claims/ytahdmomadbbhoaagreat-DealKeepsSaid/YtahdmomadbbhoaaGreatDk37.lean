import Derived.Test.YtahdmomadbbhoaaGreatDk15
import Derived.Test.YtahdmomadbbhoaaGreatDk25
section
namespace Go.Proofs.YtahdmomadbbhoaaGreat
open Go.ChangeShapes Go.WideShapes Go.ChangeAt Go.RowKit
set_option linter.unusedVariables false
set_option linter.unusedSimpArgs false

set_option maxHeartbeats 4000000 in
set_option maxRecDepth 100000 in
theorem grow_nil_fw (k : Nat) (w : World) (hk : k ≤ 1000000) :
    Calls Tryz.prog 119 #[.slice none 0 0, .int .i64 k] w fun e w' => (∃ A' c', e = .returned (.slice A' 0 c') ∧ w'.ownsRow w.heap.size 86 3 (.slice A' 0 c') 0 []) ∧ Below w.heap.size w w' := by
  have hw1 : IntKind.i64.wrap ((k : Int) - 0) = (k : Int) := by rw [IntKind.wrap_i64]; omega
  rcases Nat.eq_zero_or_pos k with rfl | hk0
  · go_enter Tryz.func119, Tryz.ntmps119
    go_wp2_with fail
    go_ret
    exact ⟨⟨none, 0, rfl, own_nil _ _ _⟩, Below.refl _ _⟩
  obtain ⟨inf, z, hinf, hz, hsize, hby, hzs⟩ := EFw.info
  have hold : (Builtin.firstCells inf.size 0 (.slice none 0 0)).run Tryz.prog w.drew = .ok (#[] : Array Value) w.drew := by simp [Builtin.firstCells]
  obtain ⟨G, hG⟩ : ∃ G, G = grownCap w (0 + k) 0 86 := ⟨_, rfl⟩
  obtain ⟨ROW, hROW⟩ : ∃ ROW : Array Value, ROW = #[] ++ Builtin.zeroCells z.cells k ++ Builtin.zeroCells z.cells (G - (0 + k)) := ⟨_, rfl⟩
  have hrz : (Builtin.append_ #[23, 3] 23 #[.slice none 0 0, .int .i64 (k : Int)]).run Tryz.prog w = .ok (.slice (some ⟨w.heap.size, 0, none⟩) k G) (w.drew.alloc (.cells ROW 86)) := by
    have h := Lib.run_append_grow_zeros w 23 3 23 86 inf z .i64 .i64 EFw.und (by kernel_rfl) hinf hz none 0 0 [] hold k hk0 (by omega) (by omega) (by omega) (by rw [hby]; omega) (by rw [hby]; exact growslice_fits (by omega) (by omega))
    rw [← hG] at h
    rw [hROW]
    simpa using h
  have hGn : k ≤ G := by rw [hG]; have := grownCap_ge w (0 + k) 0 86; omega
  have hGm : G ≤ maxLen := by rw [hG]; exact grownCap_le_maxLen w (0 + k) 0 86 (by unfold maxLen; omega)
  have hRs : ROW.size = G * 3 := by
    rw [hROW, Array.size_append, Array.size_append, zeroCells_size _ _ (by omega), zeroCells_size _ _ (by omega), hzs]
    simp only [Array.size_empty]
    have e1 : G = k + (G - (0 + k)) := by omega
    have : G * 3 = (k + (G - (0 + k))) * 3 := by rw [← e1]
    rw [this, Nat.add_mul]; omega
  have hgn : (w.drew.alloc (.cells ROW 86)).heap[w.heap.size]? = some (.cells ROW 86 (0, 0)) := heap_alloc_new w.drew _
  have hW1 : Below w.heap.size w (w.drew.alloc (.cells ROW 86)) := Below.alloc (show Below w.heap.size w w.drew from ⟨rfl, rfl, rfl, Nat.le_refl _, fun _ _ => rfl⟩) (Nat.le_refl _) _
  generalize w.drew.alloc (.cells ROW 86) = W1 at hrz hgn hW1
  have HRZ := Lib.hid hrz
  have HOWN : Hid (W1.ownsRow w.heap.size 86 3 (.slice (some ⟨w.heap.size, 0, none⟩) 0 G) 0 []) := Lib.hid ⟨by simp, .inr ⟨w.heap.size, G, ROW, rfl, Nat.le_refl _, hgn, Nat.zero_le _, hGm, hRs, by simp⟩⟩
  have hkp : (0 : Int) < (k : Int) := by omega
  have hG0 : (0 : Int) ≤ (G : Int) := by omega
  clear hold hROW hG hRs hrz hgn hsize hby hzs hinf hz
  go_enter Tryz.func119, Tryz.ntmps119
  go_wp2_with (first | (at_builtin; refine Lib.wpList_append_run _ rfl _ _ _ _ rfl _ _ rfl rfl _ _ HRZ.out ?_) | fail)
  go_ret
  exact ⟨⟨_, _, rfl, HOWN.out⟩, hW1⟩
set_option maxHeartbeats 4000000 in
set_option maxRecDepth 100000 in
theorem concat_fw (A : Option Addr) (cap : Nat) (S : List (RowS Fw)) (w : World) (hl : S.length ≤ 1000000) (hn : (RowS.all S).length ≤ 900000) (hs : Sl w A (rc RowS.cells S)) (ho : RowsOk w Fw.cells S) :
    Calls Tryz.prog 96 #[.slice A S.length cap] w fun e w' => (∃ A' c', e = .returned (.slice A' (RowS.all S).length c') ∧ w'.ownsRow w.heap.size 86 3 (.slice A' (RowS.all S).length c') (RowS.all S).length (rc Fw.cells (RowS.all S))) ∧ Below w.heap.size w w' := by
  go_enter Tryz.func96, Tryz.ntmps96
  go_wp2_with fail
  go_loopw [3, 5, 11] (fun sz sv i wr => ∃ k : Nat, k ≤ S.length ∧ i = .int .i64 k ∧ sz = .int .i64 (RowS.all (S.take k)).length ∧ Below w.heap.size w wr) (fun _ _ i _ => S.length - (intOf i).toNat)
  case atStart => exact ⟨0, by omega, rfl, rfl, Below.refl _ _⟩
  case round =>
    obtain ⟨k, hk, rfl, rfl, hB⟩ := hrel
    by_cases hlt : k < S.length
    · obtain ⟨b, o, rfl, hbw, hg⟩ := (hs.below hB).rowS hlt
      have hlk : (k : Int) < (S.length : Int) := by omega
      have HT := Lib.hid (RowS.all_take hlt)
      have hle := @all_len_le _ S (k + 1)
      rw [HT.out, List.length_append] at hle
      have hadd : IntKind.i64.wrap (((RowS.all (S.take k)).length : Int) + (S[k].l.length : Int)) = ((RowS.all (S.take k)).length : Int) + (S[k].l.length : Int) := IntWalk.i64_in _ (by omega)
      have hnn : ¬ (((RowS.all (S.take k)).length : Int) + (S[k].l.length : Int) < 0) := by omega
      have HEQ : Hid (((RowS.all (S.take k)).length : Int) + (S[k].l.length : Int) = ((RowS.all (S.take (k + 1))).length : Int)) := Lib.hid (by rw [HT.out, List.length_append]; omega)
      obtain ⟨N, hN⟩ : ∃ N, (RowS.all (S.take k)).length = N := ⟨_, rfl⟩
      rw [hN] at hadd hnn hle HEQ ⊢
      generalize S[k].l.length = M at *
      clear hN
      go_wp2_with fail
      go_roundw
      case rel => exact ⟨k + 1, by omega, by go_num, by rw [← HEQ.out], hB⟩
      case measure => simp [intOf]; omega
    · obtain rfl : k = S.length := by omega
      rw [List.take_length]
      have hwr := hB.size
      have HG := Lib.hid (grow_nil_fw (RowS.all S).length wr (by omega))
      have HN := Lib.hid hn
      obtain ⟨N, hN⟩ : ∃ N, (RowS.all S).length = N := ⟨_, rfl⟩
      have HNN := Lib.hid hN
      rw [hN] at HG HN ⊢
      clear hn hN
      go_wp2_with fail
      refine HG.out.mono ?_
      rintro e w1 ⟨⟨A1, c1, rfl, own1⟩, hb⟩
      have hB1 := since_step hB hb
      have own1 := own_base own1 hwr
      clear hb hB HG
      go_wp2_with fail
      go_loopw [6, 8, 27] (fun rv sv i wr' => ∃ (k : Nat) (A2 : Option Addr) (c2 : Nat), k ≤ S.length ∧ i = .int .i64 k ∧ rv = .slice A2 (RowS.all (S.take k)).length c2 ∧ wr'.ownsRow w.heap.size 86 3 (.slice A2 (RowS.all (S.take k)).length c2) (RowS.all (S.take k)).length (rc Fw.cells (RowS.all (S.take k))) ∧ Below w.heap.size w wr') (fun _ _ i _ => S.length - (intOf i).toNat)
      case atStart => exact ⟨0, A1, c1, by omega, rfl, rfl, own1, hB1⟩
      case round =>
        obtain ⟨k, A2, c2, hk, rfl, rfl, own2, hB2⟩ := hrel
        by_cases hlt : k < S.length
        · obtain ⟨b, o, rfl, hbw, hg⟩ := (hs.below hB2).rowS hlt
          have hin := (ho.below hB2) S[k] (List.getElem_mem hlt)
          have hlk : (k : Int) < (S.length : Int) := by omega
          have HT := Lib.hid (RowS.all_take hlt)
          have hle := @all_len_le _ S (k + 1)
          have hNo := HN.out
          rw [HNN.out, HT.out, List.length_append] at hle
          have hsz := hB2.size
          obtain ⟨R, hR⟩ : ∃ R, RowS.all (S.take k) = R := ⟨_, rfl⟩
          obtain ⟨s, hs1⟩ : ∃ s, S[k] = s := ⟨_, rfl⟩
          rw [hR, hs1] at hle HT
          rw [hR] at own2 ⊢
          rw [hs1] at hin hg
          have h63 : R.length + s.l.length ≤ 1000000 := by omega
          clear hR hs1 hle hNo
          go_wp2_with (first
            | (at_builtin; refine wpList_app rfl (.tmp 31) (.tmp 32) rfl EFw rfl rfl own2 (rc_length Fw.len s.l) hin (rc_one Fw.one _) (by unfold maxLen; omega) (by omega) hsz ?_; intro A3 c3 w3 own3 hg3 hb3)
            | fail)
          go_roundw
          case rel => exact ⟨k + 1, A3, c3, by omega, by go_num, by rw [HT.out, List.length_append], by rw [HT.out, List.length_append, rc_append]; exact own3, hB2.trans hb3⟩
          case measure => simp [intOf]; omega
        · obtain rfl : k = S.length := by omega
          rw [List.take_length] at own2 ⊢
          go_wp2_with fail
          go_ret
          exact ⟨⟨A2, c2, rfl, own2⟩, hB2⟩
end Go.Proofs.YtahdmomadbbhoaaGreat
end
