/-
  Layer 4, tenth part: PackNobody (laid by gen_pack10.py).
-/
import Derived.Test.YtppfbabdglbdaaaPack9
import Derived.Lib.Builder
namespace Go.Proofs.Ytppfbabdglbdaaa
open Go.ChangeShapes Go.WideShapes Go.ChangeAt Go.RowKit
set_option linter.unusedVariables false
set_option linter.unusedSimpArgs false

theorem rc_int (l : List Int) : rc (fun n : Int => [Value.int .i64 n]) l = ints .i64 l := by
  unfold rc ints
  induction l with
  | nil => rfl
  | cons a l ih => simp only [List.map_cons, List.flatten_cons, ih]; rfl
theorem rd_int {w : World} {r : List Value} (h : Go.Proofs.Ytppfbabdglbdaaa.Rd w (.int .i64) r) : ∃ n : Int, r = [.int .i64 n] ∧ In64p n := by
  obtain ⟨n, rfl, hn⟩ := h
  exact ⟨n, rfl, by have := bd_i64 hn; unfold In64p; omega⟩

set_option maxHeartbeats 4000000 in
set_option maxRecDepth 100000 in
theorem walk_PackNobody (a0 : Option Addr) (n0 c0 : Nat) (a1 : ByteArray) (a2 : Int) (a3 : Int) (w : World) (w0 : Rd w (.sl (.int .i64)) [.slice a0 n0 c0]) (w1 : a1.size ≤ maxLen) (w2 : (Lit.int .i64 a2).wf = true) (w3 : (Lit.int .i64 a3).wf = true) :
    Calls Try.prog 5 #[.slice a0 n0 c0, .string a1, .int .i64 a2, .int .i64 a3] w fun e w' => e = .returned (.bool true) ∧ Below w.heap.size w w' := by
  obtain ⟨l, rfl, hsc, hscm, hS, hok⟩ := rd_rowsP (f := fun n : Int => [Value.int .i64 n]) (fun r => rd_int) w0
  have hS2 : Sl w a0 (ints .i64 l) := by
    have e : rc (fun n : Int => [Value.int .i64 n]) l = ints .i64 l := by exact rc_int l
    rw [← e]
    exact hS
  have HNM : Hid (∀ V, Below w.heap.size w V → Calls Try.prog 8 #[.slice a0 l.length c0] V fun e w' => e = .returned (.slice a0 (l.take 20).length c0) ∧ Below V.heap.size V w') := Lib.hid fun V hV => numbers_any a0 c0 l V hsc hscm (hS2.below hV)
  have HSH := Lib.hid (fun V => short4_any a1 V w1)
  have HLV := Lib.hid (fun V => lives4_any V)
  obtain ⟨n20, hn20⟩ : ∃ n, (l.take 20).length = n := ⟨_, rfl⟩
  rw [hn20] at HNM
  generalize short3 a1 = sh at *
  clear hn20 w0 w2 w3 hsc hscm hS hok hS2
  generalize l.length = ln at *
  clear w1
  go_enter Try.func5, Try.ntmps5
  go_wp2_with fail
  go_loopw [9] (fun i wr => ∃ k : Nat, k ≤ 2 ∧ i = .int .i64 k ∧ Below w.heap.size w wr) (fun i _ => 2 - (intOf i).toNat)
  case atStart => exact ⟨0, by omega, rfl, Below.refl _ _⟩
  case round =>
    obtain ⟨k, hk, rfl, hB⟩ := hrel
    rcases (by omega : k = 0 ∨ k = 1 ∨ k = 2) with rfl | rfl | rfl
    · go_wp2_with fail
      have hB0 := hB
      have HW : Hid (∀ V, Below wr.heap.size wr V → NoW V (.pointer none)) := Lib.hid fun V _ => wfit_nil V
      have HR : Hid (∀ V, Below wr.heap.size wr V → NoR V (.pointer none)) := Lib.hid fun V _ => rfit_nil V
      have HRT : Hid (∀ V, Below wr.heap.size wr V → Calls Try.prog 19 #[.pointer none, .int .i64 9] V fun e w' => e = .returned (.string ⟨#[]⟩) ∧ Below V.heap.size V w') := Lib.hid fun V hV => rtext_no _ 9 V (fun V' hV' => HR.out V' (since_step hV hV'))
      refine (HNM.out _ hB0).mono ?_
      rintro e v0 ⟨rfl, hb⟩
      have hX := hb
      clear hb
      go_wp2_with fail
      refine (wint_no (.pointer none) _ _ _ _ (HW.out _ hX)).mono ?_
      rintro e v1 ⟨rfl, hb⟩
      have hX := since_step hX hb
      clear hb
      go_wp2_with fail
      refine (HSH.out _).mono ?_
      rintro e v2 ⟨rfl, hb⟩
      have hX := since_step hX hb
      clear hb
      go_wp2_with fail
      refine (wtext_no (.pointer none) _ _ (HW.out _ hX)).mono ?_
      rintro e v3 ⟨rfl, hb⟩
      have hX := since_step hX hb
      clear hb
      go_wp2_with fail
      refine (wdone_no (.pointer none) _ (HW.out _ hX)).mono ?_
      rintro e v4 ⟨rfl, hb⟩
      have hX := since_step hX hb
      clear hb
      go_wp2_with fail
      refine (rint_no (.pointer none) _ _ _ (HR.out _ hX)).mono ?_
      rintro e v5 ⟨rfl, hb⟩
      have hX := since_step hX hb
      clear hb
      go_wp2_with fail
      refine (HRT.out _ hX).mono ?_
      rintro e v6 ⟨rfl, hb⟩
      have hX := since_step hX hb
      clear hb
      go_wp2_with fail
      refine (rleft_no (.pointer none) _ (HR.out _ hX)).mono ?_
      rintro e v7 ⟨rfl, hb⟩
      have hX := since_step hX hb
      clear hb
      go_wp2_with fail
      refine (rerr_no (.pointer none) _ (HR.out _ hX)).mono ?_
      rintro e v8 ⟨rfl, hb⟩
      have hX := since_step hX hb
      clear hb
      go_wp2_with fail
      refine (rend_no (.pointer none) _ (HR.out _ hX)).mono ?_
      rintro e v9 ⟨rfl, hb⟩
      have hX := since_step hX hb
      clear hb
      go_wp2_with fail
      have hY := hB0.trans (hX.mono hB0.size)
      go_roundw
      case rel => exact ⟨1, by omega, by go_num, hY⟩
      case measure => simp [intOf]
    · go_wp2_with fail
      have hB0 : Below w.heap.size w ((wr.alloc (.cells #[.bool false, .slice none 0 0] 49)).alloc (.cells #[.bool false, .slice none 0 0, .int .i64 0] 51)) := since_alloc (since_alloc hB _) _
      have h1 := (Below.refl _ (wr.alloc (.cells #[.bool false, .slice none 0 0] 49))).alloc (Nat.le_refl _) (.cells #[.bool false, .slice none 0 0, .int .i64 0] 51)
      have hh1 := heap_alloc_new wr (.cells #[.bool false, .slice none 0 0] 49)
      have hh2 := heap_alloc_new (wr.alloc (.cells #[.bool false, .slice none 0 0] 49)) (.cells #[.bool false, .slice none 0 0, .int .i64 0] 51)
      rw [← h1.block _ (by simp)] at hh1
      rw [World.size_alloc] at hh2
      obtain ⟨V1, hV1⟩ : ∃ V1, ((wr.alloc (.cells #[.bool false, .slice none 0 0] 49)).alloc (.cells #[.bool false, .slice none 0 0, .int .i64 0] 51)) = V1 := ⟨_, rfl⟩
      rw [hV1] at hB0 hh1 hh2
      have l1 := (blk_got hh1).2.2.2.2
      have l2 := (blk_got3 hh2).2.2.2.2.2.2
      have HW : Hid (∀ V, Below V1.heap.size V1 V → NoW V (.pointer (some ⟨wr.heap.size, 0, none⟩))) := Lib.hid fun V hV => wfit_any _ false _ V (by rw [hV.block _ l1]; exact hh1)
      have HR : Hid (∀ V, Below V1.heap.size V1 V → NoR V (.pointer (some ⟨wr.heap.size + 1, 0, none⟩))) := Lib.hid fun V hV => rfit_any _ false _ _ V (by rw [hV.block _ l2]; exact hh2)
      have HRT : Hid (∀ V, Below V1.heap.size V1 V → Calls Try.prog 19 #[.pointer (some ⟨wr.heap.size + 1, 0, none⟩), .int .i64 9] V fun e w' => e = .returned (.string ⟨#[]⟩) ∧ Below V.heap.size V w') := Lib.hid fun V hV => rtext_no _ 9 V (fun V' hV' => HR.out V' (since_step hV hV'))
      rw [hV1]
      clear h1 hh1 hh2 hV1 l1 l2 hB
      generalize wr.heap.size = g1 at *
      obtain ⟨j, hj⟩ := Option.isSome_iff_exists.1 (show (Try.prog.info? 49).isSome = true by kernel_rfl)
      have hnp := fun V : World => Lib.run_neq_ptr_same (P := Try.prog) V (tp := 23) (te := 49) ⟨g1, 0, none⟩ (by kernel_rfl) hj
      refine (HNM.out _ hB0).mono ?_
      rintro e v0 ⟨rfl, hb⟩
      have hX := hb
      clear hb
      go_wp2_with fail
      refine (wint_no (.pointer (some ⟨g1, 0, none⟩)) _ _ _ _ (HW.out _ hX)).mono ?_
      rintro e v1 ⟨rfl, hb⟩
      have hX := since_step hX hb
      clear hb
      go_wp2_with fail
      refine (HSH.out _).mono ?_
      rintro e v2 ⟨rfl, hb⟩
      have hX := since_step hX hb
      clear hb
      go_wp2_with fail
      refine (wtext_no (.pointer (some ⟨g1, 0, none⟩)) _ _ (HW.out _ hX)).mono ?_
      rintro e v3 ⟨rfl, hb⟩
      have hX := since_step hX hb
      clear hb
      go_wp2_with fail
      refine (wdone_no (.pointer (some ⟨g1, 0, none⟩)) _ (HW.out _ hX)).mono ?_
      rintro e v4 ⟨rfl, hb⟩
      have hX := since_step hX hb
      clear hb
      go_wp2_with fail
      refine (rint_no (.pointer (some ⟨g1 + 1, 0, none⟩)) _ _ _ (HR.out _ hX)).mono ?_
      rintro e v5 ⟨rfl, hb⟩
      have hX := since_step hX hb
      clear hb
      go_wp2_with fail
      refine (HRT.out _ hX).mono ?_
      rintro e v6 ⟨rfl, hb⟩
      have hX := since_step hX hb
      clear hb
      go_wp2_with fail
      refine (rleft_no (.pointer (some ⟨g1 + 1, 0, none⟩)) _ (HR.out _ hX)).mono ?_
      rintro e v7 ⟨rfl, hb⟩
      have hX := since_step hX hb
      clear hb
      go_wp2_with fail
      refine (rerr_no (.pointer (some ⟨g1 + 1, 0, none⟩)) _ (HR.out _ hX)).mono ?_
      rintro e v8 ⟨rfl, hb⟩
      have hX := since_step hX hb
      clear hb
      go_wp2_with fail
      refine (rend_no (.pointer (some ⟨g1 + 1, 0, none⟩)) _ (HR.out _ hX)).mono ?_
      rintro e v9 ⟨rfl, hb⟩
      have hX := since_step hX hb
      clear hb
      go_wp2_with fail
      have hY := hB0.trans (hX.mono hB0.size)
      go_roundw
      case rel => exact ⟨2, by omega, by go_num, hY⟩
      case measure => simp [intOf]
    · go_wp2_with fail
      refine (HLV.out _).mono ?_
      rintro e v0 ⟨rfl, hb⟩
      have hX := since_step hB hb
      go_wp2_with fail
      go_ret
      exact ⟨rfl, hX⟩
end Go.Proofs.Ytppfbabdglbdaaa
