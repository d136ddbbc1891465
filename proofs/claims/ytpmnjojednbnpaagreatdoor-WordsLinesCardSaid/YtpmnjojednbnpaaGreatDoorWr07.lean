import Derived.Test.YtpmnjojednbnpaaGreatDoorWr06
section
namespace Go.Proofs.YtpmnjojednbnpaaGreatDoor
open Go.ChangeShapes Go.WideShapes Go.ChangeAt Go.RowKit
set_option linter.unusedVariables false
set_option linter.unusedSimpArgs false

def SR (w : World) (A : Option Addr) (b f : Nat) : Prop := (A = none ∧ slotL f = []) ∨ ∃ b2, A = some ⟨b2, 0, none⟩ ∧ w.heap[b2]? = some (.cells (srow b f).toArray 79 (0, 0))
theorem SR.sl {w : World} {A : Option Addr} {b f : Nat} (h : SR w A b f) : Sl w A (srow b f) := by
  rcases h with ⟨rfl, h⟩ | ⟨b2, rfl, h⟩
  · have : srow b f = [] := by unfold srow; rw [h]; rfl
    rw [this]
    exact Sl.nil
  · intro _
    refine ⟨b2, 0, rfl, fun j u hu => ?_⟩
    rw [Nat.zero_add, cell_of_row w b2 j _ _ (0, 0) h]
    simpa using hu
theorem SR.keep {w w' : World} {A A2 : Option Addr} {b f W g c : Nat} {bs : List Nat} (h : SR w A b f) (hS : WrS W w g A2 c bs) (hC : Chg g (ob A2 bs c) w w') : SR w' A b f := by
  rcases h with h | ⟨b2, e, h⟩
  · exact .inl h
  · exact .inr ⟨b2, e, hS.keep hC h (fun cs t f e => by injection e with _ e2 _; subst e2; decide)⟩
theorem SR.below {w w' : World} {A : Option Addr} {b f : Nat} (h : SR w A b f) (hb : Below w.heap.size w w') : SR w' A b f := by
  rcases h with h | ⟨b2, e, h⟩
  · exact .inl h
  · exact .inr ⟨b2, e, by rw [hb.block b2 (Array.getElem?_eq_some_iff.1 h).1]; exact h⟩
set_option maxHeartbeats 4000000 in
set_option maxRecDepth 100000 in
theorem funitR_any (b o : Nat) (w : World) (hb : b < w.heap.size) :
    Calls Tryz.prog 58 #[.pointer (some ⟨b, o, none⟩)] w fun e w' => e = .returned (.slice (some ⟨w.heap.size, 0, none⟩) 2 2) ∧ w'.heap[w.heap.size]? = some (.cells (scell b (o, 16) ++ scell b (o + 1, 16)).toArray 79 (0, 0)) ∧ Below w.heap.size w w' := by
  go_enter Tryz.func58, Tryz.ntmps58
  go_wp2_with fail
  go_still_tail 8, (by kernel_rfl)
  change wpList _ _ _ _ _ w.drew
  go_wp2_with fail
  go_ret
  refine ⟨rfl, ?_, since_alloc (below_drewN (Below.refl _ w) 1) _⟩
  exact heap_alloc_new w.drew _
set_option maxHeartbeats 8000000 in
set_option maxRecDepth 100000 in
theorem slotsR_any (b : Nat) (f : Nat) (w : World) (hb : b < w.heap.size) :
    Calls Tryz.prog 30 #[.pointer (some ⟨b, 0, none⟩), .int .i32 (f : Int)] w fun e w' => (∃ A c, e = .returned (.slice A (slotL f).length c) ∧ SR w' A b f) ∧ Below w.heap.size w w' := by
  have HU := Lib.hid (fun o => funitR_any b o w hb)
  by_cases h77 : f = 77
  · subst h77
    clear HU
    go_enter Tryz.func30, Tryz.ntmps30
    go_wp2_with fail
    go_ret
    exact ⟨⟨_, _, rfl, .inr ⟨_, rfl, heap_alloc_new w _⟩⟩, since_alloc (Below.refl _ w) _⟩
  by_cases h85 : f = 85
  · subst h85
    have HU2 := Lib.hid (HU.out 3)
    clear HU
    go_enter Tryz.func30, Tryz.ntmps30
    go_wp2_with fail
    refine HU2.out.mono ?_
    rintro e w1 ⟨rfl, hs, hb1⟩
    go_wp2_with fail
    go_ret
    exact ⟨⟨_, _, rfl, .inr ⟨_, rfl, hs⟩⟩, hb1⟩
  by_cases h79 : f = 79
  · subst h79
    have HU2 := Lib.hid (HU.out 5)
    clear HU
    go_enter Tryz.func30, Tryz.ntmps30
    go_wp2_with fail
    refine HU2.out.mono ?_
    rintro e w1 ⟨rfl, hs, hb1⟩
    go_wp2_with fail
    go_ret
    exact ⟨⟨_, _, rfl, .inr ⟨_, rfl, hs⟩⟩, hb1⟩
  by_cases h73 : f = 73
  · subst h73
    clear HU
    go_enter Tryz.func30, Tryz.ntmps30
    go_wp2_with fail
    go_ret
    exact ⟨⟨_, _, rfl, .inr ⟨_, rfl, heap_alloc_new w _⟩⟩, since_alloc (Below.refl _ w) _⟩
  by_cases h65 : f = 65
  · subst h65
    clear HU
    go_enter Tryz.func30, Tryz.ntmps30
    go_wp2_with fail
    go_ret
    exact ⟨⟨_, _, rfl, .inr ⟨_, rfl, heap_alloc_new w _⟩⟩, since_alloc (Below.refl _ w) _⟩
  by_cases h84 : f = 84
  · subst h84
    clear HU
    go_enter Tryz.func30, Tryz.ntmps30
    go_wp2_with fail
    go_ret
    exact ⟨⟨_, _, rfl, .inr ⟨_, rfl, heap_alloc_new w _⟩⟩, since_alloc (Below.refl _ w) _⟩
  by_cases h68 : f = 68
  · subst h68
    clear HU
    go_enter Tryz.func30, Tryz.ntmps30
    go_wp2_with fail
    go_ret
    exact ⟨⟨_, _, rfl, .inr ⟨_, rfl, heap_alloc_new w _⟩⟩, since_alloc (Below.refl _ w) _⟩
  by_cases h81 : f = 81
  · subst h81
    clear HU
    go_enter Tryz.func30, Tryz.ntmps30
    go_wp2_with fail
    go_ret
    exact ⟨⟨_, _, rfl, .inr ⟨_, rfl, heap_alloc_new w _⟩⟩, since_alloc (Below.refl _ w) _⟩
  by_cases h80 : f = 80
  · subst h80
    clear HU
    go_enter Tryz.func30, Tryz.ntmps30
    go_wp2_with fail
    go_ret
    exact ⟨⟨_, _, rfl, .inr ⟨_, rfl, heap_alloc_new w _⟩⟩, since_alloc (Below.refl _ w) _⟩
  have he : slotL f = [] := by
    unfold slotL
    repeat rw [if_neg (by assumption)]
  have q77 : ((f : Int) == 77) = false := by rw [beq_eq_false_iff_ne]; omega
  have q85 : ((f : Int) == 85) = false := by rw [beq_eq_false_iff_ne]; omega
  have q79 : ((f : Int) == 79) = false := by rw [beq_eq_false_iff_ne]; omega
  have q73 : ((f : Int) == 73) = false := by rw [beq_eq_false_iff_ne]; omega
  have q65 : ((f : Int) == 65) = false := by rw [beq_eq_false_iff_ne]; omega
  have q84 : ((f : Int) == 84) = false := by rw [beq_eq_false_iff_ne]; omega
  have q68 : ((f : Int) == 68) = false := by rw [beq_eq_false_iff_ne]; omega
  have q81 : ((f : Int) == 81) = false := by rw [beq_eq_false_iff_ne]; omega
  have q80 : ((f : Int) == 80) = false := by rw [beq_eq_false_iff_ne]; omega
  have he2 := Lib.hid he
  clear h77 h85 h79 h73 h65 h84 h68 h81 h80 he HU
  go_enter Tryz.func30, Tryz.ntmps30
  go_wp2_with fail
  go_ret
  exact ⟨⟨none, 0, by rw [he2.out]; rfl, .inl ⟨rfl, he2.out⟩⟩, Below.refl _ w⟩
end Go.Proofs.YtpmnjojednbnpaaGreatDoor
end
