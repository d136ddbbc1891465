import Derived.Test.YtiggcpfmmgmncaaSp04
import Derived.Test.YtiggcpfmmgmncaaSp05
section
namespace Go.Proofs.Ytiggcpfmmgmncaa
open Go.ChangeShapes Go.WideShapes Go.ChangeAt Go.RowKit
set_option linter.unusedVariables false
set_option linter.unusedSimpArgs false

theorem wpList_zeros8 {w : World} {ops : Array Oper} {rest : List Oper} {o : Oper} {a : Act} {Q : Exit → Act → World → Prop} (hg : o.guard = none) (l c : Operand) (hop : o.op = Op.makeSlice 36 l c)
    (n : Nat) {kl kc : IntKind} {L C : Int} (hl : a.eval l = .int kl L) (hc : a.eval c = .int kc C) (hL : L = (n : Int)) (hC : C = (n : Int)) (hn : n ≤ 1000000)
    {base : Nat} (b4 : base ≤ w.heap.size)
    (h : ∀ w', w'.ownsRow base 5 1 (.slice (some ⟨w.heap.size, 0, none⟩) n n) n (by8 (List.replicate n 0)) → Below w.heap.size w w' → wpList Try.prog ops Q rest (a.put o.dst (.slice (some ⟨w.heap.size, 0, none⟩) n n)) w') :
    wpList Try.prog ops Q (o :: rest) a w := by
  obtain ⟨i, hi, hz, hsize, hby⟩ := info_parts (show (Try.prog.info? 5).map (fun i => (i.zero, i.size, i.bytes)) = some (some (.int .u8 0), 1, 1) by kernel_rfl)
  refine wpList_make_full w hg l c _ hop base _ i _ 1 EF8.und hi hz hsize kl kc L C n hl hc hL hC (by rw [hby]; omega) (by unfold maxLen; omega) b4 fun w' h1 h2 => h w' ?_ (below_of_grown h2 (Nat.le_refl _) (by simp))
  have e : (madeCells (Value.int .u8 0).cells (n * 1)).toList = by8 (List.replicate n 0) := by
    apply List.ext_getElem
    · simp [by8, madeCells]
    · intro j h1 h2
      simp [by8, madeCells, Value.cells, Nat.mod_one]
  rwa [e] at h1
theorem own_set8 {w : World} {W b k n c : Nat} {l : List Nat} (h : w.ownsRow W 5 1 (.slice (some ⟨b, 0, none⟩) n c) n (by8 l)) (x : Nat) :
    (w.setCell ⟨b, k, none⟩ (.int .u8 (x : Int))).ownsRow W 5 1 (.slice (some ⟨b, 0, none⟩) n c) n (by8 (l.set k x)) := by
  obtain ⟨h1, h2⟩ := h
  refine ⟨by rw [by8_length] at h1 ⊢; rw [List.length_set]; exact h1, .inr ?_⟩
  rcases h2 with ⟨e, _⟩ | ⟨g, cap, cur, e, hbg, hg, hnc, hcm, hcs, ht⟩
  · cases e
  · injection e with e1 e2 e3
    injection e1 with e1
    injection e1 with e1
    subst e1; subst e3
    refine ⟨b, c, cur.set! k (.int .u8 (x : Int)), rfl, hbg, ?_, hnc, hcm, by simpa using hcs, ?_⟩
    · rw [setCell_eq_setRow w b k _ 5 (0, 0) _ hg]
      have := setRow_heap w b _ (cur.set! k (.int .u8 (x : Int))) 5 (0, 0) hg
      simpa using this
    · have e : (cur.set! k (.int .u8 (x : Int))).toList = cur.toList.set k (.int .u8 (x : Int)) := by simp
      rw [e, List.take_set, ht]
      unfold by8
      rw [by8_set]
theorem bign_drop {s n j : Nat} (h : j < s) : (bign s n).drop (s - (j + 1)) = n / 256 ^ j % 256 :: (bign s n).drop (s - j) := by
  have h1 : s - (j + 1) < (bign s n).length := by rw [bign_len]; omega
  rw [List.drop_eq_getElem_cons h1, bign_at, show s - 1 - (s - (j + 1)) = j by omega, show s - (j + 1) + 1 = s - j by omega]
theorem zeros_set (i x : Nat) (D : List Nat) : (List.replicate (i + 1) 0 ++ D).set i x = List.replicate i 0 ++ x :: D := by
  rw [List.replicate_succ', List.append_assoc]
  rw [List.set_append_right _ _ (by simp)]
  simp
set_option maxHeartbeats 4000000 in
set_option maxRecDepth 100000 in
theorem rnumber7_any (n s : Nat) (w : World) (hs : s ≤ 8) (hn : n < 9223372036854775808) :
    Calls Try.prog 87 #[.int .i64 n, .int .i64 s] w fun e w' => ∃ A' c', e = .returned (.slice A' (bign s n).length c') ∧ w'.ownsRow w.heap.size 5 1 (.slice A' (bign s n).length c') (bign s n).length (by8 (bign s n)) ∧ Below w.heap.size w w' := by
  rw [bign_len]
  have HD := Lib.hid (fun j (h : j < s) => bign_drop (n := n) h)
  have HL := Lib.hid (bign_len s n)
  obtain ⟨Y, hY⟩ : ∃ Y, bign s n = Y := ⟨_, rfl⟩
  rw [hY] at HD HL ⊢
  clear hY
  have hgs : (0 : Int) ≤ (s : Int) := by omega
  go_enter Try.func87, Try.ntmps87
  go_wp2_with (first
    | (at_make; refine wpList_zeros8 rfl (.tmp 7) (.tmp 7) rfl s rfl rfl rfl rfl (by omega) (Nat.le_refl _) ?_; intro w1 hown1 hb1)
    | fail)
  go_loopw [0, 6] (fun nv iv wr => ∃ (j : Nat) (z q : Int), j ≤ s ∧ nv = .int .i64 z ∧ z = ((n / 256 ^ j : Nat) : Int) ∧ iv = .int .i64 q ∧ q = ((s - j : Nat) : Int) ∧ wr.ownsRow w.heap.size 5 1 (.slice (some ⟨w.heap.size, 0, none⟩) s s) s (by8 (List.replicate (s - j) 0 ++ Y.drop (s - j))) ∧ Below w.heap.size w wr) (fun _ iv _ => (intOf iv).toNat)
  case atStart => exact ⟨0, n, s, by omega, rfl, by simp, rfl, rfl, by
    have e : Y.drop (s - 0) = [] := by apply List.eq_nil_of_length_eq_zero; rw [List.length_drop, HL.out]; omega
    rw [e, List.append_nil]; exact hown1, hb1⟩
  case round =>
    obtain ⟨j, z, q, hj, rfl, hz, rfl, hq, own2, hB⟩ := hrel
    by_cases hlt : j < s
    · have HE : Hid ((List.replicate (s - j) 0 ++ Y.drop (s - j)).set (s - (j + 1)) (n / 256 ^ j % 256) = List.replicate (s - (j + 1)) 0 ++ Y.drop (s - (j + 1))) := Lib.hid (by
        rw [HD.out j hlt, show s - j = (s - (j + 1)) + 1 by omega, zeros_set])
      obtain ⟨M, hM⟩ : ∃ M, n / 256 ^ j = M := ⟨_, rfl⟩
      have hMn : M ≤ n := by rw [← hM]; exact Nat.div_le_self n _
      have hM1 : n / 256 ^ (j + 1) = M / 256 := by rw [Nat.pow_succ, ← Nat.div_div_eq_div_mul, hM]
      rw [hM] at hz HE
      have hq0 : 0 < q := by omega
      have hqs : q ≤ (s : Int) := by omega
      have hq1 : 0 ≤ q - 1 := by omega
      have hq2 : q - 1 < (s : Int) := by omega
      have hz0 : 0 ≤ z := by omega
      have hz1 : z < 9223372036854775808 := by omega
      have ht1 : z.tdiv 256 = z / 256 := Int.tdiv_eq_ediv_of_nonneg hz0
      have ht2 : z.tmod 256 = z % 256 := Int.tmod_eq_emod_of_nonneg hz0
      have HZ : Hid (z % 256 = ((M % 256 : Nat) : Int)) := Lib.hid (by omega)
      have HZ2 : Hid (z / 256 = ((n / 256 ^ (j + 1) : Nat) : Int)) := Lib.hid (by rw [hM1]; omega)
      obtain ⟨J, hJ⟩ : ∃ J, s - (j + 1) = J := ⟨_, rfl⟩
      have hoff : (q - 1).toNat = J := by omega
      have HQ : Hid (q - 1 = ((s - (j + 1) : Nat) : Int)) := Lib.hid (by omega)
      rw [hJ] at HE
      have HJ := Lib.hid hJ
      obtain ⟨hgc, hgf⟩ : (∃ u, wr.cell? ⟨w.heap.size, J, none⟩ = some u) ∧ wr.frozen? ⟨w.heap.size, J, none⟩ = false := by
        rcases own2.2 with ⟨e, _⟩ | ⟨g1, cap, cur, e, _, h, hnc, _, hcs, _⟩
        · cases e
        · injection e with e e2 e3
          injection e with e
          injection e with e
          subst e; subst e3
          refine ⟨?_, by simp [World.frozen?, h]⟩
          rw [cell_of_row wr w.heap.size J cur 5 (0, 0) h]
          exact ⟨_, Array.getElem?_eq_getElem (by omega)⟩
      obtain ⟨cu, hgc⟩ := hgc
      have own3 := own_set8 (k := J) own2 (M % 256)
      rw [HE.out, ← HZ.out] at own3
      have hB3 : Below w.heap.size w (wr.setCell ⟨w.heap.size, J, none⟩ (.int .u8 (z % 256))) := Below.setCell hB (p := ⟨w.heap.size, J, none⟩) (Nat.le_refl _) _
      clear hz hq hJ hM hM1 hMn
      go_wp2_with fail
      go_roundw
      case rel => exact ⟨j + 1, z / 256, q - 1, by omega, rfl, HZ2.out, rfl, HQ.out, by rw [HJ.out]; exact own3, hB3⟩
      case measure => simp [intOf]; omega
    · obtain rfl : j = s := by omega
      have hq0 : ¬ 0 < q := by omega
      have e1 : List.replicate (j - j) 0 ++ Y.drop (j - j) = Y := by rw [Nat.sub_self]; simp
      rw [e1] at own2
      clear hz hq
      go_wp2_with fail
      go_ret
      exact ⟨_, _, rfl, own2, hB⟩
end Go.Proofs.Ytiggcpfmmgmncaa
end
