import Derived.Test.YtldnponbkhgijaaGL12
import Derived.Test.YtldnponbkhgijaaGL16
import Derived.Test.YtldnponbkhgijaaGL19
import Derived.Test.YtldnponbkhgijaaGL22
section
namespace Go.Proofs.Ytldnponbkhgijaa
open Go.ChangeShapes Go.WideShapes Go.ChangeAt Go.RowKit
set_option linter.unusedVariables false
set_option linter.unusedSimpArgs false

def liveI : List Ins := [⟨1, 10, 0, 0, [2, -3]⟩]
theorem live24a : marginR liveI [⟨1, 4⟩] = (120, 0) := by
  have e : worstR liveI [⟨1, 4⟩] = (120, 1, 0) := by decide
  unfold marginR
  rw [e]
  decide
theorem live24b : marginR liveI [⟨1, -4⟩] = (80, 0) := by
  have e : worstR liveI [⟨1, -4⟩] = (80, 0, 0) := by decide
  unfold marginR
  rw [e]
  decide
theorem live24c : worstR liveI [⟨1, 4⟩] = (120, 1, 0) := by decide
set_option maxHeartbeats 4000000 in
set_option maxRecDepth 100000 in
theorem lives24_any (w : World) : Calls Try.prog 50 #[] w fun e w' => e = .returned (.bool true) ∧ Below w.heap.size w w' := by
  have hB0 := since_alloc (since_alloc (Below.refl _ w) (.cells #[.int .i64 2, .int .i64 (-3)] 2)) (.cells #[.int .i64 1, .int .i64 10, .int .i64 0, .int .i64 0, .slice (some ⟨w.heap.size, 0, none⟩) 2 2] 153)
  have s0 := (Sl.new_ w (ints .i64 [2, -3]) 2).alloc (.cells #[.int .i64 1, .int .i64 10, .int .i64 0, .int .i64 0, .slice (some ⟨w.heap.size, 0, none⟩) 2 2] 153)
  have r0 : Sl ((w.alloc (.cells #[.int .i64 2, .int .i64 (-3)] 2)).alloc (.cells #[.int .i64 1, .int .i64 10, .int .i64 0, .int .i64 0, .slice (some ⟨w.heap.size, 0, none⟩) 2 2] 153)) (some ⟨w.heap.size + 1, 0, none⟩) (rc Iq.cells [⟨1, 10, 0, 0, some ⟨w.heap.size, 0, none⟩, 2, 2⟩]) := Sl.new1 w (.cells #[.int .i64 2, .int .i64 (-3)] 2) (rc Iq.cells [⟨1, 10, 0, 0, some ⟨w.heap.size, 0, none⟩, 2, 2⟩]) 153
  have t0 : InTab ((w.alloc (.cells #[.int .i64 2, .int .i64 (-3)] 2)).alloc (.cells #[.int .i64 1, .int .i64 10, .int .i64 0, .int .i64 0, .slice (some ⟨w.heap.size, 0, none⟩) 2 2] 153)) [⟨1, 10, 0, 0, some ⟨w.heap.size, 0, none⟩, 2, 2⟩] liveI :=
    InTab.cons ⟨rfl, rfl, rfl, rfl, rfl, ⟨⟨Nat.le_refl _, by show 2 ≤ maxLen; decide⟩, s0, (fun x hx => by rcases List.mem_cons.1 hx with rfl | hx; (unfold In64; omega); (rw [List.mem_singleton.1 hx]; unfold In64; omega)), by show In64 1 ∧ In64 10 ∧ In64 0 ∧ In64 0; unfold In64; omega⟩⟩ (InTab.nil _)
  have HT := Lib.hid (And.intro r0 t0)
  have hq : ∀ q : Int, In64 q → ∀ y ∈ [(⟨1, q⟩ : Lg)], In64 y.qty := fun q h y hy => by rw [List.mem_singleton.1 hy]; exact h
  have hcl : ∀ i ∈ liveI, i.mv.length ≤ 900000 := by intro i hi; rw [List.mem_singleton.1 hi]; decide
  have HM1 := Lib.hid (fun LA V h1 h2 h3 => gmargin_any (some ⟨w.heap.size + 1, 0, none⟩) 1 [⟨1, 10, 0, 0, some ⟨w.heap.size, 0, none⟩, 2, 2⟩] liveI LA 1 [⟨1, 4⟩] V (by simp) hcl (by simp) (hq 4 (by unfold In64; omega)) h1 h2 h3)
  have HM2 := Lib.hid (fun LA V h1 h2 h3 => gmargin_any (some ⟨w.heap.size + 1, 0, none⟩) 1 [⟨1, 10, 0, 0, some ⟨w.heap.size, 0, none⟩, 2, 2⟩] liveI LA 1 [⟨1, -4⟩] V (by simp) hcl (by simp) (hq (-4) (by unfold In64; omega)) h1 h2 h3)
  have HM3 := Lib.hid (fun LA V h1 h2 h3 => gworst2_any (some ⟨w.heap.size + 1, 0, none⟩) 1 [⟨1, 10, 0, 0, some ⟨w.heap.size, 0, none⟩, 2, 2⟩] liveI LA 1 [⟨1, 4⟩] V (by simp) hcl (by simp) (hq 4 (by unfold In64; omega)) h1 h2 h3)
  rw [live24a] at HM1
  rw [live24b] at HM2
  rw [live24c] at HM3
  simp only [List.length_cons, List.length_nil] at HM1 HM2 HM3
  clear s0 r0 t0 hq hcl
  go_enter Try.func50, Try.ntmps50
  go_upto_region 2 with fail
  generalize hYY : (w.alloc (.cells #[.int .i64 2, .int .i64 (-3)] 2)).alloc (.cells #[.int .i64 1, .int .i64 10, .int .i64 0, .int .i64 0, .slice (some ⟨w.heap.size, 0, none⟩) 2 2] 153) = Y at *
  clear hYY
  go_wp2_with fail
  refine (HM1.out _ _ (HT.out.1.alloc _) (HT.out.2.below ((Below.refl _ _).alloc (Nat.le_refl _) _)) (Sl.new_ Y (rc Lg.cells [⟨1, 4⟩]) 138)).mono ?_
  rintro e w1 ⟨rfl, hb⟩
  have hb := since_step (since_alloc (Below.refl _ Y) (.cells #[.int .i64 1, .int .i64 4] 138)) hb
  have hB1 := since_step hB0 hb
  have HT := Lib.hid (And.intro (HT.out.1.below hb) (HT.out.2.below hb))
  clear hb
  go_wp2_with fail
  refine (HM2.out _ _ (HT.out.1.alloc _) (HT.out.2.below ((Below.refl _ _).alloc (Nat.le_refl _) _)) (Sl.new_ w1 (rc Lg.cells [⟨1, -4⟩]) 138)).mono ?_
  rintro e w2 ⟨rfl, hb⟩
  have hb := since_step (since_alloc (Below.refl _ w1) (.cells #[.int .i64 1, .int .i64 (-4)] 138)) hb
  have hB2 := since_step hB1 hb
  have HT := Lib.hid (And.intro (HT.out.1.below hb) (HT.out.2.below hb))
  clear hb
  go_wp2_with fail
  refine (HM3.out _ _ (HT.out.1.alloc _) (HT.out.2.below ((Below.refl _ _).alloc (Nat.le_refl _) _)) (Sl.new_ w2 (rc Lg.cells [⟨1, 4⟩]) 138)).mono ?_
  rintro e w3 ⟨rfl, hb⟩
  have hb := since_step (since_alloc (Below.refl _ w2) (.cells #[.int .i64 1, .int .i64 4] 138)) hb
  have hB3 := since_step hB2 hb
  go_wp2_with fail
  go_ret
  exact ⟨rfl, hB3⟩
theorem rd_legs24 {w : World} {A : Option Addr} {n c : Nat} (h : Rd w (.sl (.cat (.int .i64) (.cat (.int .i64) .nil))) [.slice A n c]) : ∃ M : List Lg, M.length ≤ 12 ∧ (∀ y ∈ M, In64 y.qty) ∧ Sl w A (rc Lg.cells M) ∧ Hid (∀ V, Below w.heap.size w V → Calls Try.prog 29 #[.slice A n c] V fun e w' => e = .returned (.slice A M.length c) ∧ Below V.heap.size V w') := by
  have hf : ∀ r, Rd w (.cat (.int .i64) (.cat (.int .i64) .nil)) r → ∃ g : Lg, r = g.cells ∧ In64 g.qty := fun r h => by
    obtain ⟨p, q, rfl, ⟨a, rfl, _⟩, ⟨p2, q2, rfl, ⟨b, rfl, hb⟩, rfl⟩⟩ := h
    exact ⟨⟨a, b⟩, rfl, bd_i64 hb⟩
  obtain ⟨l, rfl, hlc, hcm, hs, hq⟩ := rd_rowsP (f := Lg.cells) hf h
  exact ⟨l.take 12, by simp; omega, fun y hy => hq y (List.mem_of_mem_take hy), by rw [← rc_take Lg.len]; exact hs.take _, Lib.hid fun V hV => few11_any A c l V hlc hcm (hs.below hV)⟩
end Go.Proofs.Ytldnponbkhgijaa
end
