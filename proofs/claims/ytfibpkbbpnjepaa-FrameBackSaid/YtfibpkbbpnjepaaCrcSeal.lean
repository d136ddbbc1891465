/-
  The walks of layer 5: Seal, Open, the document's Seal.
-/
import Derived.Test.YtfibpkbbpnjepaaCrcLaws
namespace Go.Proofs.Ytfibpkbbpnjepaa
open Go.ChangeShapes Go.WideShapes Go.ChangeAt Go.RowKit
set_option linter.unusedVariables false

/-- the three bytes of a sum, the highest first -/
def three (m : Nat) : List Nat := [m / 65536, m / 256 % 256, m % 256]
def sealed (l : List Nat) : List Nat := l ++ three (CrcM.more 11994318 l)

set_option maxHeartbeats 400000 in
theorem seal_any (A : Option Addr) (cap : Nat) (l : List Nat) (w : World) (hl : l.length ≤ 1000000) (hs : Sl w A (by8 l)) (ho : Oct l) :
    Calls Try.prog 22 #[.slice A l.length cap] w fun e w' => ∃ A' c', e = .returned (.slice A' (l.length + 3) c') ∧
      w'.ownsRow w.heap.size 5 1 (.slice A' (l.length + 3) c') (l.length + 3) (by8 (sealed l)) ∧ Below w.heap.size w w' := by
  go_enter Try.func22, Try.ntmps22
  go_wp2_with fail
  refine (of_any A cap l _ (by unfold maxLen; omega) hs ho).mono ?_
  rintro e w' ⟨rfl, rfl⟩
  have hm := CrcM.more_lt 11994318 l (by omega) ho
  have HS := Lib.hid (show sealed l = l ++ three (CrcM.more 11994318 l) from rfl)
  generalize CrcM.more 11994318 l = m at *
  go_wp2_with (first
    | (at_make; refine wpList_mk rfl (.const (.int .i64 0)) (.tmp 9) rfl u8E (l.length + 3) rfl rfl (by omega) (by omega) (by unfold maxLen; omega) (Nat.le_refl _) ?_; intro w1 hown1 hb1)
    | (at_builtin; refine wpList_app rfl (.tmp 11) (.tmp 12) rfl u8E rfl rfl hown1 (by rw [by8_length]; omega) (hs.below hb1) (by8_one _) (by unfold maxLen; omega) (by omega) hb1.size ?_; intro A2 c2 w2 hown2 hg2 hb2; simp only [Nat.zero_add, List.nil_append] at hown2)
    | (at_builtin; refine wpList_app rfl (.tmp 14) (.tmp 23) rfl u8E rfl rfl (hown2.alloc _) (m := 3) (news := by8 (three m)) rfl (Sl.new_ _ _ _) (by8_one _) (by unfold maxLen; omega) (by omega) (by have := hb1.size; have := hb2.size; simp; omega) ?_; intro A3 c3 w3 hown3 hg3 hb3)
    | fail)
  refine bodyPost_ret (results_tmp rfl _ _ _) rfl ⟨A3, c3, rfl, ?_, ?_⟩
  · rw [HS.out, by8_append]; exact hown3
  · exact (((hb1.trans hb2).alloc (by have := hb1.size; have := hb2.size; omega) _).trans hb3)

set_option maxHeartbeats 400000 in
theorem refSeal_any (A : Option Addr) (cap : Nat) (l : List Nat) (w : World) (hl : l.length ≤ 1000000) (hs : Sl w A (by8 l)) (ho : Oct l) :
    Calls Try.prog 25 #[.slice A l.length cap] w fun e w' => ∃ A' c', e = .returned (.slice A' (l.length + 3) c') ∧
      w'.ownsRow w.heap.size 5 1 (.slice A' (l.length + 3) c') (l.length + 3) (by8 (sealed l)) ∧ Below w.heap.size w w' := by
  go_enter Try.func25, Try.ntmps25
  go_wp2_with fail
  refine (refMore_any 11994318 A cap l _ (by omega) (by unfold maxLen; omega) hs ho).mono ?_
  rintro e w' ⟨rfl, rfl⟩
  rw [show 11994318 % 16777216 = 11994318 from rfl]
  have hm := CrcM.more_lt 11994318 l (by omega) ho
  have HS := Lib.hid (show sealed l = l ++ three (CrcM.more 11994318 l) from rfl)
  generalize CrcM.more 11994318 l = m at *
  go_wp2_with (first
    | (at_builtin; refine wpList_app rfl (.tmp 7) (.tmp 8) rfl u8E rfl rfl (own_nil w.heap.size _ _) (by rw [by8_length]; omega) hs (by8_one _) (by unfold maxLen; omega) (by omega) (Nat.le_refl _) ?_; intro A2 c2 w2 hown2 hg2 hb2; simp only [Nat.zero_add, List.nil_append] at hown2)
    | (at_builtin; refine wpList_app rfl (.tmp 10) (.tmp 21) rfl u8E rfl rfl (hown2.alloc _) (m := 3) (news := by8 (three m)) rfl (Sl.new_ _ _ _) (by8_one _) (by unfold maxLen; omega) (by omega) (by have := hb2.size; simp; omega) ?_; intro A3 c3 w3 hown3 hg3 hb3)
    | fail)
  refine bodyPost_ret (results_tmp rfl _ _ _) rfl ⟨A3, c3, rfl, ?_, ?_⟩
  · rw [HS.out, by8_append]; exact hown3
  · exact ((hb2.alloc (by have := hb2.size; omega) _).trans hb3)

theorem or24 (p q r : Nat) (hp : p < 256) (hq : q < 256) (hr : r < 256) :
    bits .or .u32 (bits .or .u32 ((p : Int) * 65536) ((q : Int) * 256)) (r : Int) = ((p * 65536 + q * 256 + r : Nat) : Int) := by
  have h1 := u32_or_nat (p * 65536) (q * 256) (by omega) (by omega)
  have e1 : (p * 65536) ||| (q * 256) = p * 65536 + q * 256 := nat_join 16 _ _ (by omega) (by omega)
  have h2 := u32_or_nat (p * 65536 + q * 256) r (by omega) (by omega)
  have e2 : (p * 65536 + q * 256) ||| r = p * 65536 + q * 256 + r := nat_join 8 _ _ (by omega) (by omega)
  rw [e1] at h1
  rw [e2] at h2
  rw [← h2, ← h1]
  rfl

theorem open_short (A : Option Addr) (n cap : Nat) (w : World) (hl : n < 3) :
    Calls Try.prog 28 #[.slice A n cap] w fun e w' => e = .returned (.tuple #[.slice none 0 0, .bool false]) ∧ w = w' := by
  go_enter Try.func28, Try.ntmps28
  go_wp2
  go_ret2
  exact ⟨rfl, rfl⟩

set_option maxHeartbeats 400000 in
theorem open_any (A : Option Addr) (cap : Nat) (x : List Nat) (p q r : Nat) (w : World) (hl : x.length ≤ 1000000) (hs : Sl w A (by8 (x ++ [p, q, r]))) (ho : Oct (x ++ [p, q, r])) :
    Calls Try.prog 28 #[.slice A (x.length + 3) cap] w fun e w' => ∃ A' c', e = .returned (.tuple #[.slice A' x.length c', .bool (decide (p * 65536 + q * 256 + r = CrcM.more 11994318 x))]) ∧
      w'.ownsRow w.heap.size 5 1 (.slice A' x.length c') x.length (by8 x) ∧ Below w.heap.size w w' := by
  have hsx : Sl w A (by8 x) := by
    have := hs.take x.length
    rw [by8_append] at this
    rwa [List.take_left' (by rw [by8_length])] at this
  have hox : Oct x := fun y hy => ho y (by simp [hy])
  obtain ⟨b, o, rfl, hc0⟩ := hs.byte (j := x.length) (by simp)
  have hc1 : w.cell? ⟨b, o + (x.length + 1), none⟩ = some (.int .u8 (q : Int)) := by
    obtain ⟨_, _, e, h⟩ := hs.byte (j := x.length + 1) (by simp)
    injection e with e; injection e with e1 e2; subst e1; subst e2
    simpa using h
  have hc2 : w.cell? ⟨b, o + (x.length + 2), none⟩ = some (.int .u8 (r : Int)) := by
    obtain ⟨_, _, e, h⟩ := hs.byte (j := x.length + 2) (by simp)
    injection e with e; injection e with e1 e2; subst e1; subst e2
    simpa using h
  have hc0' : w.cell? ⟨b, o + x.length, none⟩ = some (.int .u8 (p : Int)) := by simpa using hc0
  clear hc0
  have hp : p < 256 := ho p (by simp)
  have hq : q < 256 := ho q (by simp)
  have hr : r < 256 := ho r (by simp)
  clear hs ho
  go_enter Try.func28, Try.ntmps28
  go_wp2_with fail
  go_quiet (fail)
  go_wp2_with (first
    | (at_make; refine wpList_mkFull rfl (.tmp 34) (.tmp 34) rfl u8E x.length rfl rfl (by omega) (by omega) (by omega) (by unfold maxLen; omega) (Nat.le_refl _) ?_; intro w1 hown1 hb1; obtain ⟨z, hown1, hz⟩ := hown1)
    | (with_reducible refine wpList_cp rfl (.tmp 36) (.tmp 37) rfl u8E rfl rfl hown1 (by rw [by8_length]) (by omega) ((hsx.drewN _).below hb1) (by8_one _) ?_; intro w2 hown2 hb2)
    | fail)
  have hs2 : Sl w2 (some { block := w.heap.size, off := 0 }) (by8 x) := Sl.of_own hown2
  refine (of_any _ x.length x _ (by unfold maxLen; omega) hs2 hox).mono ?_
  rintro e w' ⟨rfl, rfl⟩
  have H := or24 p q r hp hq hr
  go_wp2_with fail
  exact bodyPost_ret (results_tmp2 rfl _ _ _) rfl ⟨_, _, retTB (natBeq _ _), hown2, (below_drewN (Below.refl _ _) _).trans ((hb1.mono (Nat.le_refl _)).trans hb2)⟩
end Go.Proofs.Ytfibpkbbpnjepaa
