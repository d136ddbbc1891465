/-
  Layer 4, third part: the document's Ints, Text; the writer's Text, Done, New; numbers, short (laid by gen_pack3.py).
-/
import Derived.Test.YtpmnjojednbnpaaPack2
namespace Go.Proofs.Ytpmnjojednbnpaa
open Go.ChangeShapes Go.WideShapes Go.ChangeAt Go.RowKit
set_option linter.unusedVariables false
set_option linter.unusedSimpArgs false

/-- a text's bytes -/
def sb (s : ByteArray) : List Nat := s.data.toList.map UInt8.toNat
theorem sb_len (s : ByteArray) : (sb s).length = s.size := by simp [sb]
theorem sb_cells (s : ByteArray) : Lib.strCells s = by8 (sb s) := by simp [sb, by8, Lib.strCells]
theorem sb_byte (s : ByteArray) : ∀ c ∈ sb s, c < 256 := by
  intro c hc
  unfold sb at hc
  obtain ⟨b, _, rfl⟩ := List.mem_map.1 hc
  exact b.toNat_lt
def short3 (s : ByteArray) : ByteArray := if 300 < s.size then s.extract 0 300 else s
set_option maxHeartbeats 1000000 in
theorem wnew_any (w : World) : Calls Try.prog 66 #[] w fun e w' => e = .returned (.pointer (some ⟨w.heap.size, 0, none⟩)) ∧ Wr w' w.heap.size none 0 [] ∧ w' = w.alloc (.cells #[.bool true, .slice none 0 0] 121) := by
  have hh := heap_alloc_new w (.cells #[.bool true, .slice none 0 0] 121)
  go_enter Try.func66, Try.ntmps66
  go_wp2_with fail
  go_ret
  exact ⟨rfl, ⟨hh, own_nil _ _ _⟩, rfl⟩

set_option maxHeartbeats 4000000 in
set_option maxRecDepth 100000 in
theorem rpints_any (A : Option Addr) (cap : Nat) (l : List Int) (w : World) (hl : l.length ≤ 1000) (h6 : ∀ x ∈ l, In64p x) (hs : Sl w A (ints .i64 l)) :
    Calls Try.prog 34 #[.slice A l.length cap] w fun e w' => BRow w.heap.size w' e (packL l) ∧ Below w.heap.size w w' := by
  have H6 := Lib.hid h6
  have HPL : Hid (∀ k, k ≤ l.length → (packL (l.take k)).length ≤ 10 * k) := Lib.hid fun k => by
    induction k with
    | zero => intro _; simp [packL]
    | succ k ih =>
      intro hk
      have hlt : k < l.length := by omega
      rw [List.take_succ_eq_append_getElem hlt, packL_append, List.length_append]
      have h1 := ih (by omega)
      have h2 := vb_len10 (zz_lt (h6 _ (List.getElem_mem hlt)))
      have h3 : packL [l[k]] = vb (zz l[k]) := by simp [packL, packI]
      rw [h3]
      omega
  clear h6
  go_enter Try.func34, Try.ntmps34
  go_wp2_with fail
  go_loopw [3, 4] (fun ov i wr => ∃ (k : Nat) (A2 : Option Addr) (c2 : Nat), k ≤ l.length ∧ i = .int .i64 k ∧ ov = .slice A2 (packL (l.take k)).length c2 ∧ wr.ownsRow w.heap.size 5 1 (.slice A2 (packL (l.take k)).length c2) (packL (l.take k)).length (by8 (packL (l.take k))) ∧ Below w.heap.size w wr) (fun _ i _ => l.length - (intOf i).toNat)
  case atStart => exact ⟨0, none, 0, by omega, rfl, rfl, own_nil _ _ _, Below.refl _ _⟩
  case round =>
    obtain ⟨k, A2, c2, hk, rfl, rfl, own2, hB⟩ := hrel
    by_cases hlt : k < l.length
    · have hlk : (k : Int) < (l.length : Int) := by omega
      obtain ⟨b, o, rfl, hc0⟩ := (hs.below hB).int hlt
      have HT : Hid (packL (l.take (k + 1)) = packL (l.take k) ++ packI l[k]) := Lib.hid (by rw [List.take_succ_eq_append_getElem hlt, packL_append]; simp [packL])
      have hp := HPL.out k hk
      have hn6 := H6.out _ (List.getElem_mem hlt)
      obtain ⟨n, hn⟩ : ∃ n, l[k] = n := ⟨_, rfl⟩
      obtain ⟨P, hP⟩ : ∃ P, packL (l.take k) = P := ⟨_, rfl⟩
      rw [hn] at hc0 HT hn6
      rw [hP] at own2 HT hp ⊢
      have HI := Lib.hid (rpint_any n hn6 wr)
      have hil : (packI n).length ≤ 10 := vb_len10 (zz_lt hn6)
      have HB1 : Hid (∀ u ∈ by8 (packI n), u.oneCell' = true) := Lib.hid (by8_one _)
      generalize packI n = Q at *
      clear hn hP hn6
      go_wp2_with fail
      refine HI.out.mono ?_
      rintro e w1 ⟨⟨A3, c3, rfl, own3⟩, hb⟩
      have hB1 := since_step hB hb
      have own2 := own_below own2 hb
      have hq := Sl.of_own own3
      have hsz := hB1.size
      clear own3 hb hc0
      go_wp2_with (first
        | (at_builtin; refine wpList_app rfl (.tmp 11) (.tmp 16) rfl EU8 rfl rfl own2 (m := Q.length) (by rw [by8_length, Nat.mul_one]) hq HB1.out (by unfold maxLen; omega) (by omega) hsz ?_; intro A5 c5 w5 own5 hg5 hb5)
        | fail)
      go_roundw
      case rel => exact ⟨k + 1, A5, c5, by omega, by go_num, by rw [HT.out, List.length_append], by rw [HT.out, List.length_append, by8_append]; exact own5, hB1.trans hb5⟩
      case measure => simp [intOf]; omega
    · obtain rfl : k = l.length := by omega
      rw [List.take_length] at own2 ⊢
      go_wp2_with fail
      go_ret
      exact ⟨⟨A2, c2, rfl, own2⟩, hB⟩

end Go.Proofs.Ytpmnjojednbnpaa
