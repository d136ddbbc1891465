/-
  The walks of two laws of layer 5: CrcSums, CrcParts.
-/
import Derived.Test.YtaaknohoaijfhaaCrcWalk2
namespace Go.Proofs.Ytaaknohoaijfhaa
open Go.ChangeShapes Go.WideShapes Go.ChangeAt Go.RowKit
set_option linter.unusedVariables false

set_option maxHeartbeats 400000 in
theorem walk_CrcSums (a0 : Int) (a1 : Option Addr) (len1 cap1 : Nat) (z1 : List Int) (w : World) (w0 : (Lit.int .u32 a0).wf = true) (w1 : IsRow .u8 w a1 len1 cap1 z1) :
    Calls Try.prog 3 #[.int .u32 a0, .slice a1 len1 cap1] w fun e w' => e = .returned (.bool true) ∧ Below w.heap.size w w' := by
  obtain ⟨l, rfl, hc, hm, hs, ho⟩ := w1.bytes
  have hb := bd_u32 w0
  obtain ⟨c, rfl⟩ := Int.eq_ofNat_of_zero_le hb.1
  have hc32 : c < 4294967296 := by omega
  have hL : (l.take 300).length = min l.length 300 := by simp [Nat.min_comm]
  have hlm : (l.take 300).length ≤ maxLen := by omega
  have hs' : Sl w a1 (by8 (l.take 300)) := by rw [by8_take]; exact hs.take 300
  have ho' := ho.take 300
  clear w1 hs ho w0 hb
  unfold maxLen at hm
  go_enter Try.func3, Try.ntmps3
  go_wp2_with fail
  refine (cut_any a1 l.length cap1 300 _ (by omega) (by omega) hc (by omega)).mono ?_
  rintro e w' ⟨rfl, rfl⟩
  rw [← hL]
  clear hL
  generalize l.take 300 = m at *
  go_wp2_with fail
  refine (more_any c a1 cap1 m _ hc32 hlm hs' ho').mono ?_
  rintro e w' ⟨rfl, rfl⟩
  go_wp2_with fail
  refine (refMore_any c a1 cap1 m _ hc32 hlm hs' ho').mono ?_
  rintro e w' ⟨rfl, rfl⟩
  go_wp2_with fail
  refine (of_any a1 cap1 m _ hlm hs' ho').mono ?_
  rintro e w' ⟨rfl, rfl⟩
  go_wp2_with fail
  refine (refMore_any 11994318 a1 cap1 m _ (by omega) hlm hs' ho').mono ?_
  rintro e w' ⟨rfl, rfl⟩
  rw [show 11994318 % 16777216 = 11994318 from rfl]
  go_wp2_with fail
  refine (lives_any _).mono ?_
  rintro e w' ⟨rfl, hb⟩
  go_wp2_with fail
  go_ret
  exact ⟨rfl, hb⟩

theorem u8E : Elem Try.prog 23 5 1 1 := Elem.mk' (z := .int .u8 0) Try.underlying23 (by kernel_rfl) rfl (by decide)

/-- what Cut leaves of bytes -/
theorem cut_bytes {w : World} {A : Option Addr} {l : List Nat} (k : Nat) (hs : Sl w A (by8 l)) (ho : Oct l) : ∃ x : List Nat, Hid (min l.length k = x.length ∧ x = l.take k) ∧ x.length ≤ k ∧ Sl w A (by8 x) ∧ Oct x :=
  ⟨l.take k, ⟨by simp [Nat.min_comm], rfl⟩, by simp; omega, by rw [by8_take]; exact hs.take k, ho.take k⟩

set_option maxHeartbeats 400000 in
theorem walk_CrcParts (a0 : Int) (a1 : Option Addr) (len1 cap1 : Nat) (z1 : List Int) (a2 : Option Addr) (len2 cap2 : Nat) (z2 : List Int) (w : World) (w0 : (Lit.int .u32 a0).wf = true) (w1 : IsRow .u8 w a1 len1 cap1 z1) (w2 : IsRow .u8 w a2 len2 cap2 z2) :
    Calls Try.prog 5 #[.int .u32 a0, .slice a1 len1 cap1, .slice a2 len2 cap2] w fun e w' => e = .returned (.bool true) ∧ Below w.heap.size w w' := by
  obtain ⟨la, rfl, hca, hma, hsa, hoa⟩ := w1.bytes
  obtain ⟨lb, rfl, hcb, hmb, hsb, hob⟩ := w2.bytes
  have hb := bd_u32 w0
  obtain ⟨c, rfl⟩ := Int.eq_ofNat_of_zero_le hb.1
  have hc32 : c < 4294967296 := by omega
  obtain ⟨x, HX, hla, hsa', hoa'⟩ := cut_bytes 200 hsa hoa
  obtain ⟨y, HY, hlb, hsb', hob'⟩ := cut_bytes 200 hsb hob
  clear w1 w2 hsa hsb hoa hob w0 hb
  unfold maxLen at hma hmb
  go_enter Try.func5, Try.ntmps5
  go_wp2_with fail
  refine (cut_any a1 la.length cap1 200 _ (by omega) (by omega) hca (by omega)).mono ?_
  rintro e w' ⟨rfl, rfl⟩
  rw [HX.out.1]
  go_wp2_with fail
  refine (cut_any a2 lb.length cap2 200 _ (by omega) (by omega) hcb (by omega)).mono ?_
  rintro e w' ⟨rfl, rfl⟩
  rw [HY.out.1]
  clear HX HY hca hcb hma hmb
  go_wp2_with (first
    | (at_builtin; refine wpList_app rfl (.tmp 12) (.tmp 13) rfl u8E rfl rfl (own_nil w.heap.size _ _) (by rw [by8_length]; omega) hsa' (by8_one _) (by unfold maxLen; omega) (by omega) (Nat.le_refl _) ?_; intro A1 c1 w1 hown1 hg1 hb1; simp only [Nat.zero_add, List.nil_append] at hown1)
    | (at_builtin; refine wpList_app rfl (.tmp 15) (.tmp 16) rfl u8E rfl rfl hown1 (by rw [by8_length]; omega) (hsb'.below hb1) (by8_one _) (by unfold maxLen; omega) (by omega) hb1.size ?_; intro A2 c2 w2 hown2 hg2 hb2)
    | fail)
  have hbw := hb1.trans hb2
  have hsx := hsa'.below hbw
  have hsy := hsb'.below hbw
  have hsz : Sl w2 A2 (by8 (x ++ y)) := by rw [by8_append]; exact Sl.of_own hown2
  have hxy : (x ++ y).length = x.length + y.length := by simp
  refine (more_any c a1 cap1 x _ hc32 (by unfold maxLen; omega) hsx hoa').mono ?_
  rintro e w' ⟨rfl, rfl⟩
  have hm1 := CrcM.more_lt (c % 16777216) x (by omega) hoa'
  have HM := Lib.hid (show CrcM.more (c % 16777216) (x ++ y) = CrcM.more (CrcM.more (c % 16777216) x % 16777216) y by rw [CrcM.more_append, Nat.mod_eq_of_lt hm1])
  have HXY := Lib.hid hxy
  clear hxy
  generalize CrcM.more (c % 16777216) x = m1 at *
  go_wp2_with fail
  refine (more_any m1 a2 cap2 y _ (by omega) (by unfold maxLen; omega) hsy hob').mono ?_
  rintro e w' ⟨rfl, rfl⟩
  go_wp2_with fail
  rw [← HXY.out]
  refine (more_any c A2 c2 (x ++ y) _ hc32 (by have := HXY.out; unfold maxLen; omega) hsz (hoa'.app hob')).mono ?_
  rintro e w' ⟨rfl, rfl⟩
  rw [HM.out]
  go_wp2_with fail
  refine (lives_any _).mono ?_
  rintro e w' ⟨rfl, hb⟩
  go_wp2_with fail
  go_ret
  exact ⟨rfl, hbw.trans (hb.mono hbw.size)⟩
end Go.Proofs.Ytaaknohoaijfhaa
