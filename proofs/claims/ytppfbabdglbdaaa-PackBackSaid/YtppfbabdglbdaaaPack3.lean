/-
  Layer 4, third part: the document's Ints, Text; the writer's Text, Done, New; numbers, short (laid by gen_pack3.py).
-/
import Derived.Test.YtppfbabdglbdaaaPack2
namespace Go.Proofs.Ytppfbabdglbdaaa
open Go.ChangeShapes Go.WideShapes Go.ChangeAt Go.RowKit
set_option linter.unusedVariables false
set_option linter.unusedSimpArgs false

/-- a text's bytes -/
def sb (s : ByteArray) : List Nat := s.data.toList.map UInt8.toNat
theorem sb_len (s : ByteArray) : (sb s).length = s.size := by simp [sb]
theorem sb_cells (s : ByteArray) : Lib.strCells s = by8 (sb s) := by simp [sb, by8, Lib.strCells]
theorem sb_byte (s : ByteArray) : ∀ c ∈ sb s, c < 256 := by
  intro c hc
  unfold sb at hc
  obtain ⟨b, _, rfl⟩ := List.mem_map.1 hc
  exact b.toNat_lt
set_option maxHeartbeats 1000000 in
theorem numbers_any (A : Option Addr) (cap : Nat) (l : List Int) (w : World) (hc : l.length ≤ cap) (hcm : cap ≤ maxLen) (hs : Sl w A (ints .i64 l)) :
    Calls Try.prog 8 #[.slice A l.length cap] w fun e w' => e = .returned (.slice A (l.take 20).length cap) ∧ Below w.heap.size w w' := by
  by_cases h : 20 < l.length
  · have hl : (l.take 20).length = 20 := by simp; omega
    rw [hl]
    have h40 : 20 ≤ cap := by omega
    cases A with
    | none => obtain ⟨b, o, e, _⟩ := hs.int (j := 0) (by omega); cases e
    | some ad =>
      go_enter Try.func8, Try.ntmps8
      go_wp2
      go_ret
      exact ⟨rfl, Below.refl _ _⟩
  · have hl : (l.take 20).length = l.length := by simp; omega
    rw [hl]
    go_enter Try.func8, Try.ntmps8
    go_wp2
    go_ret
    exact ⟨rfl, Below.refl _ _⟩
def short3 (s : ByteArray) : ByteArray := if 300 < s.size then s.extract 0 300 else s
set_option maxHeartbeats 1000000 in
theorem short4_any (s : ByteArray) (w : World) (hs : s.size ≤ maxLen) :
    Calls Try.prog 11 #[.string s] w fun e w' => e = .returned (.string (short3 s)) ∧ Below w.heap.size w w' := by
  unfold maxLen at hs
  unfold short3
  by_cases h : 300 < s.size
  · rw [if_pos h]
    have h2 : (300 : Int) < (s.size : Int) := by omega
    go_enter Try.func11, Try.ntmps11
    go_wp2
    go_ret
    exact ⟨rfl, Below.refl _ _⟩
  · rw [if_neg h]
    have h2 : ¬ (300 : Int) < (s.size : Int) := by omega
    go_enter Try.func11, Try.ntmps11
    go_wp2
    go_ret
    exact ⟨rfl, Below.refl _ _⟩
set_option maxHeartbeats 1000000 in
theorem wnew_any (w : World) : Calls Try.prog 6 #[] w fun e w' => e = .returned (.pointer (some ⟨w.heap.size, 0, none⟩)) ∧ Wr w' w.heap.size none 0 [] ∧ w' = w.alloc (.cells #[.bool true, .slice none 0 0] 49) := by
  have hh := heap_alloc_new w (.cells #[.bool true, .slice none 0 0] 49)
  go_enter Try.func6, Try.ntmps6
  go_wp2_with fail
  go_ret
  exact ⟨rfl, ⟨hh, own_nil _ _ _⟩, rfl⟩

set_option maxHeartbeats 4000000 in
set_option maxRecDepth 100000 in
theorem rpints_any (A : Option Addr) (cap : Nat) (l : List Int) (w : World) (hl : l.length ≤ 1000) (h6 : ∀ x ∈ l, In64p x) (hs : Sl w A (ints .i64 l)) :
    Calls Try.prog 9 #[.slice A l.length cap] w fun e w' => BRow w.heap.size w' e (packL l) ∧ Below w.heap.size w w' := by
  have H6 := Lib.hid h6
  have HPL : Hid (∀ k, k ≤ l.length → (packL (l.take k)).length ≤ 10 * k) := Lib.hid fun k => by
    induction k with
    | zero => intro _; simp [packL]
    | succ k ih =>
      intro hk
      have hlt : k < l.length := by omega
      rw [List.take_succ_eq_append_getElem hlt, packL_append, List.length_append]
      have h1 := ih (by omega)
      have h2 := vb_len10 (zz_lt (h6 _ (List.getElem_mem hlt)))
      have h3 : packL [l[k]] = vb (zz l[k]) := by simp [packL, packI]
      rw [h3]
      omega
  clear h6
  go_enter Try.func9, Try.ntmps9
  go_wp2_with fail
  go_loopw [3, 4] (fun ov i wr => ∃ (k : Nat) (A2 : Option Addr) (c2 : Nat), k ≤ l.length ∧ i = .int .i64 k ∧ ov = .slice A2 (packL (l.take k)).length c2 ∧ wr.ownsRow w.heap.size 5 1 (.slice A2 (packL (l.take k)).length c2) (packL (l.take k)).length (by8 (packL (l.take k))) ∧ Below w.heap.size w wr) (fun _ i _ => l.length - (intOf i).toNat)
  case atStart => exact ⟨0, none, 0, by omega, rfl, rfl, own_nil _ _ _, Below.refl _ _⟩
  case round =>
    obtain ⟨k, A2, c2, hk, rfl, rfl, own2, hB⟩ := hrel
    by_cases hlt : k < l.length
    · have hlk : (k : Int) < (l.length : Int) := by omega
      obtain ⟨b, o, rfl, hc0⟩ := (hs.below hB).int hlt
      have HT : Hid (packL (l.take (k + 1)) = packL (l.take k) ++ packI l[k]) := Lib.hid (by rw [List.take_succ_eq_append_getElem hlt, packL_append]; simp [packL])
      have hp := HPL.out k hk
      have hn6 := H6.out _ (List.getElem_mem hlt)
      obtain ⟨n, hn⟩ : ∃ n, l[k] = n := ⟨_, rfl⟩
      obtain ⟨P, hP⟩ : ∃ P, packL (l.take k) = P := ⟨_, rfl⟩
      rw [hn] at hc0 HT hn6
      rw [hP] at own2 HT hp ⊢
      have HI := Lib.hid (rpint_any n hn6 wr)
      have hil : (packI n).length ≤ 10 := vb_len10 (zz_lt hn6)
      have HB1 : Hid (∀ u ∈ by8 (packI n), u.oneCell' = true) := Lib.hid (by8_one _)
      generalize packI n = Q at *
      clear hn hP hn6
      go_wp2_with fail
      refine HI.out.mono ?_
      rintro e w1 ⟨⟨A3, c3, rfl, own3⟩, hb⟩
      have hB1 := since_step hB hb
      have own2 := own_below own2 hb
      have hq := Sl.of_own own3
      have hsz := hB1.size
      clear own3 hb hc0
      go_wp2_with (first
        | (at_builtin; refine wpList_app rfl (.tmp 11) (.tmp 16) rfl EU8 rfl rfl own2 (m := Q.length) (by rw [by8_length, Nat.mul_one]) hq HB1.out (by unfold maxLen; omega) (by omega) hsz ?_; intro A5 c5 w5 own5 hg5 hb5)
        | fail)
      go_roundw
      case rel => exact ⟨k + 1, A5, c5, by omega, by go_num, by rw [HT.out, List.length_append], by rw [HT.out, List.length_append, by8_append]; exact own5, hB1.trans hb5⟩
      case measure => simp [intOf]; omega
    · obtain rfl : k = l.length := by omega
      rw [List.take_length] at own2 ⊢
      go_wp2_with fail
      go_ret
      exact ⟨⟨A2, c2, rfl, own2⟩, hB⟩

set_option maxHeartbeats 4000000 in
set_option maxRecDepth 100000 in
theorem rptext_any (s : ByteArray) (w : World) (hl : s.size ≤ 1000000) :
    Calls Try.prog 12 #[.string s] w fun e w' => BRow w.heap.size w' e (packT (sb s)) ∧ Below w.heap.size w w' := by
  have h6 : In64p (s.size : Int) := by unfold In64p; omega
  have HI := Lib.hid (rpint_any (s.size : Int) h6 w)
  have hil : (packI (s.size : Int)).length ≤ 10 := vb_len10 (zz_lt h6)
  have HP : Hid (packT (sb s) = packI (s.size : Int) ++ sb s) := Lib.hid (by unfold packT; rw [sb_len])
  obtain ⟨RR, hRR⟩ : ∃ RR, packT (sb s) = RR := ⟨_, rfl⟩
  rw [hRR] at HP ⊢
  generalize packI (s.size : Int) = Q at *
  clear h6 hRR
  go_enter Try.func12, Try.ntmps12
  go_wp2_with fail
  refine HI.out.mono ?_
  rintro e w1 ⟨⟨A3, c3, rfl, own3⟩, hB0⟩
  have hz0 := hB0.size
  clear HI
  go_wp2_with fail
  go_loopw [3, 4] (fun ov i wr => ∃ (k : Nat) (A2 : Option Addr) (c2 : Nat), k ≤ s.size ∧ i = .int .i64 k ∧ ov = .slice A2 (Q ++ (sb s).take k).length c2 ∧ wr.ownsRow w.heap.size 5 1 (.slice A2 (Q ++ (sb s).take k).length c2) (Q ++ (sb s).take k).length (by8 (Q ++ (sb s).take k)) ∧ Below w.heap.size w wr) (fun _ i _ => s.size - (intOf i).toNat)
  case atStart => exact ⟨0, A3, c3, by omega, rfl, by simp, by simpa using own3, hB0⟩
  case round =>
    clear own3
    obtain ⟨k, A2, c2, hk, rfl, rfl, own2, hB⟩ := hrel
    by_cases hlt : k < s.size
    · have hlk : (k : Int) < (s.size : Int) := by omega
      have hgk : (0 : Int) ≤ (k : Int) := by omega
      have hks : k < (sb s).length := by rw [sb_len]; exact hlt
      have HT : Hid ((sb s).take (k + 1) = (sb s).take k ++ [(sb s)[k]]) := Lib.hid (List.take_succ_eq_append_getElem hks)
      have hsk : (sb s)[k] = s[k].toNat := by simp [sb]; rfl
      have hsz := hB.size
      have hpl : (Q ++ (sb s).take k).length ≤ 1000010 := by rw [List.length_append, List.length_take, sb_len]; omega
      rw [hsk] at HT
      obtain ⟨P, hP⟩ : ∃ P, Q ++ (sb s).take k = P := ⟨_, rfl⟩
      have HTP : Hid (Q ++ (sb s).take (k + 1) = P ++ [s[k].toNat]) := Lib.hid (by rw [HT.out, ← hP, List.append_assoc])
      rw [hP] at own2 hpl ⊢
      clear hP HT hsk hks
      go_wp2_with (first
        | (at_builtin; refine wpList_app rfl (.tmp 14) (.tmp 18) rfl EU8 rfl rfl (own2.alloc _) (m := 1) (news := [.int .u8 (s[k].toNat : Int)]) rfl (Sl.new_ _ _ _) (fun u hu => by simp only [List.mem_cons, List.not_mem_nil, or_false] at hu; subst hu; rfl) (by unfold maxLen; omega) (by omega) (by simp only [World.size_alloc]; omega) ?_; intro A5 c5 w5 own5 hg5 hb5)
        | fail)
      have hB3 := (since_alloc hB (.cells #[.int .u8 (s[k].toNat : Int)] 5)).trans hb5
      go_roundw
      case rel => exact ⟨k + 1, A5, c5, by omega, by go_num, by rw [HTP.out]; simp, by rw [HTP.out]; simpa [by8] using own5, hB3⟩
      case measure => simp [intOf]; omega
    · obtain rfl : k = s.size := by omega
      have e1 : (sb s).take s.size = sb s := by rw [← sb_len, List.take_length]
      rw [e1, ← HP.out] at own2 ⊢
      go_wp2_with fail
      go_ret
      exact ⟨⟨A2, c2, rfl, own2⟩, hB⟩
end Go.Proofs.Ytppfbabdglbdaaa
