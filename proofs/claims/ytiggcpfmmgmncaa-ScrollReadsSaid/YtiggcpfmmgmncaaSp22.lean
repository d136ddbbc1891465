import Derived.Test.YtiggcpfmmgmncaaSp21
section
namespace Go.Proofs.Ytiggcpfmmgmncaa
open Go.ChangeShapes Go.WideShapes Go.ChangeAt Go.RowKit
set_option linter.unusedVariables false
set_option linter.unusedSimpArgs false

def FRes (B : Nat) (w' : World) (e : Ending) (R : Option Fr) : Prop := ∃ A' c', e = .returned (.tuple #[(R.getD Fr0).val A' c', .bool R.isSome]) ∧ w'.ownsRow B 5 1 (.slice A' (R.getD Fr0).data.length c') (R.getD Fr0).data.length (by8 (R.getD Fr0).data)
theorem frB_dec (b : List Nat) : (frB b).getD Fr0 = (decF b).1 ∧ (frB b).isSome = decide ((decF b).2 = 0) ∧ ((decF b).2 = 0 ∨ (decF b).2 = 3) := by
  unfold frB decF
  split
  · exact ⟨rfl, rfl, .inl rfl⟩
  · exact ⟨rfl, rfl, .inr rfl⟩
theorem six_got {w V : World} {a0 a1 a2 a3 a4 a5 : Value} {t : TypeId} (h : Below (w.heap.size + 1) (w.alloc (.cells #[a0, a1, a2, a3, a4, a5] t)) V) :
    (V.cell? ⟨w.heap.size, 0, none⟩ = some a0 ∧ V.cell? ⟨w.heap.size, 1, none⟩ = some a1 ∧ V.cell? ⟨w.heap.size, 2, none⟩ = some a2 ∧ V.cell? ⟨w.heap.size, 3, none⟩ = some a3 ∧ V.cell? ⟨w.heap.size, 4, none⟩ = some a4 ∧ V.cell? ⟨w.heap.size, 5, none⟩ = some a5) ∧
    (V.frozen? ⟨w.heap.size, 0, none⟩ = false ∧ V.frozen? ⟨w.heap.size, 1, none⟩ = false ∧ V.frozen? ⟨w.heap.size, 2, none⟩ = false ∧ V.frozen? ⟨w.heap.size, 3, none⟩ = false ∧ V.frozen? ⟨w.heap.size, 4, none⟩ = false ∧ V.frozen? ⟨w.heap.size, 5, none⟩ = false) ∧ w.heap.size < V.heap.size := by
  have hz := h.size
  rw [World.size_alloc] at hz
  have hf : ∀ i, V.frozen? ⟨w.heap.size, i, none⟩ = false := fun i => (h.frozen (p := ⟨w.heap.size, i, none⟩) (Nat.lt_succ_self _)).trans (frozen_new w _ t i)
  exact ⟨box6 (by rw [World.size_alloc]; exact h), ⟨hf 0, hf 1, hf 2, hf 3, hf 4, hf 5⟩, by omega⟩
theorem below_six {B g : Nat} {w V : World} {a0 a1 a2 a3 a4 a5 : Value} (h : Below B w V) (hg : B ≤ g) :
    Below B w ((((((V.setCell ⟨g, 0, none⟩ a0).setCell ⟨g, 1, none⟩ a1).setCell ⟨g, 2, none⟩ a2).setCell ⟨g, 3, none⟩ a3).setCell ⟨g, 4, none⟩ a4).setCell ⟨g, 5, none⟩ a5) :=
  ((((((h.setCell (p := ⟨g, 0, none⟩) hg _).setCell (p := ⟨g, 1, none⟩) hg _).setCell (p := ⟨g, 2, none⟩) hg _).setCell (p := ⟨g, 3, none⟩) hg _).setCell (p := ⟨g, 4, none⟩) hg _).setCell (p := ⟨g, 5, none⟩) hg _)
theorem own_six {w : World} {base e size n g : Nat} {v : Value} {xs : List Value} {a0 a1 a2 a3 a4 a5 : Value} (h : w.ownsRow base e size v n xs) (hp : v.ownBlock ≠ some g) :
    ((((((w.setCell ⟨g, 0, none⟩ a0).setCell ⟨g, 1, none⟩ a1).setCell ⟨g, 2, none⟩ a2).setCell ⟨g, 3, none⟩ a3).setCell ⟨g, 4, none⟩ a4).setCell ⟨g, 5, none⟩ a5).ownsRow base e size v n xs :=
  own_far1 (own_far1 (own_far1 (own_far1 (own_far1 (own_far1 h (p := ⟨g, 0, none⟩) hp _) (p := ⟨g, 1, none⟩) hp _) (p := ⟨g, 2, none⟩) hp _) (p := ⟨g, 3, none⟩) hp _) (p := ⟨g, 4, none⟩) hp _) (p := ⟨g, 5, none⟩) hp _
set_option maxHeartbeats 2000000 in
set_option maxRecDepth 100000 in
theorem rframe_at {B b g kc : Nat} {K : Option Addr} {d : Dv} (k : Nat) (w : World) (h : DrA B w b g K kc d) (hk : k < d.S.length) :
    Calls Try.prog 77 #[.pointer (some ⟨b, 0, none⟩), .int .i64 k] w fun e w' => FRes w.heap.size w' e (frD d.S k) ∧ Below w.heap.size w w' := by
  rw [frD_at hk]
  have HR := Lib.hid (fun V (hV : Below w.heap.size w V) => dread_ok k V (h.below hV) hk)
  have H96 := Lib.hid (h.s96 _ (List.getElem_mem hk))
  have HOC := Lib.hid (h.oct _ (List.getElem_mem hk))
  generalize d.S[k] = X at *
  clear h hk
  obtain ⟨q1, q2, q3⟩ := frB_dec X
  generalize frB X = R at *
  obtain ⟨⟨⟨f0, f1, f2, f3, f4, fd⟩, z⟩, hDX⟩ : ∃ D, decF X = D := ⟨_, rfl⟩
  rw [hDX] at q1 q2 q3
  simp only at q1 q2 q3
  have HDX := Lib.hid hDX
  have HQ1 := Lib.hid q1
  have HQ2 := Lib.hid q2
  have HQ3 := Lib.hid q3
  clear q1 q2 q3 hDX
  go_enter Try.func77, Try.ntmps77
  go_wp2_with fail
  have hB0 : Below w.heap.size w (w.alloc (.cells #[.int .i64 0, .int .i64 0, .int .i64 0, .int .i64 0, .int .i64 0, .slice none 0 0] 130)) := since_alloc (Below.refl _ _) _
  refine (HR.out _ hB0).mono ?_
  rintro e w1 ⟨⟨m, rfl, own1⟩, hb⟩
  have hB1 := since_step hB0 hb
  have hD := fdec7_any (some ⟨m, 0, none⟩) 96 X w1 (by rw [H96.out]; exact Nat.le_refl _) (by decide) (Sl.of_own own1) HOC.out
  rw [H96.out, HDX.out] at hD
  have HD := Lib.hid hD
  clear hD own1
  have HB := Lib.hid hb
  have HB1 := Lib.hid hB1
  clear hb hB1
  go_wp2_with fail
  refine HD.out.mono ?_
  rintro e w2 ⟨⟨A2, c2, rfl, own2⟩, hb2⟩
  unfold Fr.val
  simp only
  have hb3 := HB.out.trans (hb2.mono HB.out.size)
  obtain ⟨⟨y0, y1, y2, y3, y4, y5⟩, ⟨z0, z1, z2, z3, z4, z5⟩, hlt⟩ := six_got (by rw [World.size_alloc] at hb3; exact hb3)
  have hB2 := Lib.hid (since_step HB1.out hb2)
  have HNE := Lib.hid (show (Value.slice A2 fd.length c2).ownBlock ≠ some w.heap.size from fun e => by have h1 := own_ge own2 _ e; have h2 := HB.out.size; rw [World.size_alloc] at h2; omega)
  have HOW2 := Lib.hid (own_base own2 (show w.heap.size ≤ w1.heap.size from HB1.out.size))
  clear hb2 hb3 own2 HD HB HB1
  go_wp2_with fail
  refine bodyPost_ret (v := .tuple #[.agg #[.int .i64 f0, .int .i64 f1, .int .i64 f2, .int .i64 f3, .int .i64 f4, .slice A2 fd.length c2], .bool (z == 0)]) ?_ rfl ⟨⟨A2, c2, ?_, ?_⟩, ?_⟩
  · simp [results, Try.results77, go_sem, y0, y1, y2, y3, y4, y5, hlt]
  · rw [HQ1.out, HQ2.out]
    rcases HQ3.out with h | h <;> rw [h] <;> rfl
  · rw [HQ1.out]
    exact (own_six HOW2.out HNE.out).alloc _
  · exact (below_six hB2.out (Nat.le_refl _)).alloc (Nat.le_of_lt (by simpa using hlt)) _
end Go.Proofs.Ytiggcpfmmgmncaa
end
