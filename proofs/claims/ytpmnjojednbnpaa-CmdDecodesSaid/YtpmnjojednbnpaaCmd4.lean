/-
  Layer 34: slots as a row; wire's Put at numbers; Encode of the program (laid by gen_cmd4.py).
-/
import Derived.Test.YtpmnjojednbnpaaCmd3
namespace Go.Proofs.Ytpmnjojednbnpaa
open Go.ChangeShapes Go.WideShapes Go.ChangeAt Go.RowKit
set_option linter.unusedVariables false
set_option linter.unusedSimpArgs false

/-- where a letter's slots lie -/
def SR (w : World) (A : Option Addr) (b f : Nat) : Prop := (A = none ∧ slotL f = []) ∨ ∃ b2, A = some ⟨b2, 0, none⟩ ∧ w.heap[b2]? = some (.cells (srow b f).toArray 71 (0, 0))
theorem SR.sl {w : World} {A : Option Addr} {b f : Nat} (h : SR w A b f) : Sl w A (srow b f) := by
  rcases h with ⟨rfl, h⟩ | ⟨b2, rfl, h⟩
  · have : srow b f = [] := by unfold srow; rw [h]; rfl
    rw [this]
    exact Sl.nil
  · intro _
    refine ⟨b2, 0, rfl, fun j u hu => ?_⟩
    rw [Nat.zero_add, cell_of_row w b2 j _ _ (0, 0) h]
    simpa using hu
theorem SR.keep {w w' : World} {A A2 : Option Addr} {b f W g c : Nat} {bs : List Nat} (h : SR w A b f) (hS : WrS W w g A2 c bs) (hC : Chg g (ob A2 bs c) w w') : SR w' A b f := by
  rcases h with h | ⟨b2, e, h⟩
  · exact .inl h
  · exact .inr ⟨b2, e, hS.keep hC h (fun cs t f e => by injection e with _ e2 _; subst e2; decide)⟩
theorem SR.below {w w' : World} {A : Option Addr} {b f : Nat} (h : SR w A b f) (hb : Below w.heap.size w w') : SR w' A b f := by
  rcases h with h | ⟨b2, e, h⟩
  · exact .inl h
  · exact .inr ⟨b2, e, by rw [hb.block b2 (Array.getElem?_eq_some_iff.1 h).1]; exact h⟩

set_option maxHeartbeats 4000000 in
set_option maxRecDepth 100000 in
theorem funitR_any (b o : Nat) (w : World) (hb : b < w.heap.size) :
    Calls Try.prog 68 #[.pointer (some ⟨b, o, none⟩)] w fun e w' => e = .returned (.slice (some ⟨w.heap.size, 0, none⟩) 2 2) ∧ w'.heap[w.heap.size]? = some (.cells (scell b (o, 16) ++ scell b (o + 1, 16)).toArray 71 (0, 0)) ∧ Below w.heap.size w w' := by
  go_enter Try.func68, Try.ntmps68
  go_wp2_with fail
  go_still_tail 8, (by kernel_rfl)
  change wpList _ _ _ _ _ w.drew
  go_wp2_with fail
  go_ret
  refine ⟨rfl, ?_, since_alloc (below_drewN (Below.refl _ w) 1) _⟩
  exact heap_alloc_new w.drew _

set_option maxHeartbeats 8000000 in
set_option maxRecDepth 100000 in
theorem slotsR_any (b : Nat) (f : Nat) (w : World) (hb : b < w.heap.size) :
    Calls Try.prog 29 #[.pointer (some ⟨b, 0, none⟩), .int .i32 (f : Int)] w fun e w' => (∃ A c, e = .returned (.slice A (slotL f).length c) ∧ SR w' A b f) ∧ Below w.heap.size w w' := by
  have HU := Lib.hid (fun o => funitR_any b o w hb)
  by_cases h77 : f = 77
  · subst h77
    clear HU
    go_enter Try.func29, Try.ntmps29
    go_wp2_with fail
    go_ret
    exact ⟨⟨_, _, rfl, .inr ⟨_, rfl, heap_alloc_new w _⟩⟩, since_alloc (Below.refl _ w) _⟩
  by_cases h85 : f = 85
  · subst h85
    have HU2 := Lib.hid (HU.out 3)
    clear HU
    go_enter Try.func29, Try.ntmps29
    go_wp2_with fail
    refine HU2.out.mono ?_
    rintro e w1 ⟨rfl, hs, hb1⟩
    go_wp2_with fail
    go_ret
    exact ⟨⟨_, _, rfl, .inr ⟨_, rfl, hs⟩⟩, hb1⟩
  by_cases h79 : f = 79
  · subst h79
    have HU2 := Lib.hid (HU.out 5)
    clear HU
    go_enter Try.func29, Try.ntmps29
    go_wp2_with fail
    refine HU2.out.mono ?_
    rintro e w1 ⟨rfl, hs, hb1⟩
    go_wp2_with fail
    go_ret
    exact ⟨⟨_, _, rfl, .inr ⟨_, rfl, hs⟩⟩, hb1⟩
  by_cases h73 : f = 73
  · subst h73
    clear HU
    go_enter Try.func29, Try.ntmps29
    go_wp2_with fail
    go_ret
    exact ⟨⟨_, _, rfl, .inr ⟨_, rfl, heap_alloc_new w _⟩⟩, since_alloc (Below.refl _ w) _⟩
  by_cases h65 : f = 65
  · subst h65
    clear HU
    go_enter Try.func29, Try.ntmps29
    go_wp2_with fail
    go_ret
    exact ⟨⟨_, _, rfl, .inr ⟨_, rfl, heap_alloc_new w _⟩⟩, since_alloc (Below.refl _ w) _⟩
  by_cases h84 : f = 84
  · subst h84
    clear HU
    go_enter Try.func29, Try.ntmps29
    go_wp2_with fail
    go_ret
    exact ⟨⟨_, _, rfl, .inr ⟨_, rfl, heap_alloc_new w _⟩⟩, since_alloc (Below.refl _ w) _⟩
  by_cases h68 : f = 68
  · subst h68
    clear HU
    go_enter Try.func29, Try.ntmps29
    go_wp2_with fail
    go_ret
    exact ⟨⟨_, _, rfl, .inr ⟨_, rfl, heap_alloc_new w _⟩⟩, since_alloc (Below.refl _ w) _⟩
  by_cases h81 : f = 81
  · subst h81
    clear HU
    go_enter Try.func29, Try.ntmps29
    go_wp2_with fail
    go_ret
    exact ⟨⟨_, _, rfl, .inr ⟨_, rfl, heap_alloc_new w _⟩⟩, since_alloc (Below.refl _ w) _⟩
  by_cases h80 : f = 80
  · subst h80
    clear HU
    go_enter Try.func29, Try.ntmps29
    go_wp2_with fail
    go_ret
    exact ⟨⟨_, _, rfl, .inr ⟨_, rfl, heap_alloc_new w _⟩⟩, since_alloc (Below.refl _ w) _⟩
  have he : slotL f = [] := by
    unfold slotL
    repeat rw [if_neg (by assumption)]
  have q77 : ((f : Int) == 77) = false := by rw [beq_eq_false_iff_ne]; omega
  have q85 : ((f : Int) == 85) = false := by rw [beq_eq_false_iff_ne]; omega
  have q79 : ((f : Int) == 79) = false := by rw [beq_eq_false_iff_ne]; omega
  have q73 : ((f : Int) == 73) = false := by rw [beq_eq_false_iff_ne]; omega
  have q65 : ((f : Int) == 65) = false := by rw [beq_eq_false_iff_ne]; omega
  have q84 : ((f : Int) == 84) = false := by rw [beq_eq_false_iff_ne]; omega
  have q68 : ((f : Int) == 68) = false := by rw [beq_eq_false_iff_ne]; omega
  have q81 : ((f : Int) == 81) = false := by rw [beq_eq_false_iff_ne]; omega
  have q80 : ((f : Int) == 80) = false := by rw [beq_eq_false_iff_ne]; omega
  have he2 := Lib.hid he
  clear h77 h85 h79 h73 h65 h84 h68 h81 h80 he HU
  go_enter Try.func29, Try.ntmps29
  go_wp2_with fail
  go_ret
  exact ⟨⟨none, 0, by rw [he2.out]; rfl, .inl ⟨rfl, he2.out⟩⟩, Below.refl _ w⟩

set_option maxHeartbeats 4000000 in
set_option maxRecDepth 100000 in
theorem enc1_any (W g wb : Nat) (A : Option Addr) (c : Nat) (bs : List Nat) (n : Int) (w : World) (hS : WrS W w g A c bs) (hx : w.heap[wb]? = some (.cells #[.pointer (some ⟨g, 0, none⟩)] 59 (0, 0))) (hbl : bs.length ≤ 1000000) (h6 : In64p n) :
    Calls Try.prog 27 #[.int .i64 n, .pointer (some ⟨wb, 0, none⟩)] w fun e w' => e = .returned (.tuple #[]) ∧ ∃ A' c', Wt W g (ob A bs c) A' c' (bs ++ packI n) w w' := by
  have HI := Lib.hid (wint1 W g A c bs n w hS hbl h6)
  have k0 : w.cell? ⟨wb, 0, none⟩ = some (.pointer (some ⟨g, 0, none⟩)) := by rw [cell_of_row w wb 0 _ _ (0, 0) hx]; rfl
  have hwl : wb < w.heap.size := (Array.getElem?_eq_some_iff.1 hx).1
  clear hx hS
  go_enter Try.func27, Try.ntmps27
  go_wp2_with fail
  refine HI.out.mono ?_
  rintro e w1 ⟨rfl, A', c', hW⟩
  go_wp2_with fail
  go_end0
  exact ⟨rfl, A', c', hW⟩
set_option maxHeartbeats 16000000 in
set_option maxRecDepth 100000 in
theorem wput64 (W g wb : Nat) (A : Option Addr) (c : Nat) (bs : List Nat) (A0 : Option Addr) (cap : Nat) (l : List Int) (w : World) (hS : WrS W w g A c bs) (hx : w.heap[wb]? = some (.cells #[.pointer (some ⟨g, 0, none⟩)] 59 (0, 0))) (hl : l.length ≤ 100) (hbl : bs.length + 10 * (l.length + 1) ≤ 1000000) (h6 : ∀ x ∈ l, In64p x) (hs : Sl w A0 (ints .i64 l))
    (hf : ∀ b o, A0 = some ⟨b, o, none⟩ → l ≠ [] → b ≠ g ∧ ob A bs c ≠ some b) :
    Calls Try.prog 26 #[.agg #[.pointer (some ⟨g, 0, none⟩)], .slice A0 l.length cap, .func (.func 27) #[] #[.pointer (some ⟨wb, 0, none⟩)]] w fun e w' => e = .returned (.tuple #[]) ∧ ∃ A' c', Wt W g (ob A bs c) A' c' (bs ++ packL ((l.length : Int) :: l)) w w' := by
  have hb0 : Below w.heap.size w ((w.alloc (.cells #[.pointer (some ⟨g, 0, none⟩)] 59)).alloc (.cells #[.int .i64 (l.length : Int)] 3)) := since_alloc (since_alloc (Below.refl _ w) (.cells #[.pointer (some ⟨g, 0, none⟩)] 59)) (.cells #[.int .i64 (l.length : Int)] 3)
  have hS1 := hS.below hb0
  have hs1 := hs.below hb0
  have hx1 := (hb0.block wb (Array.getElem?_eq_some_iff.1 hx).1).trans hx
  have hlt := hS.wr.lt
  have H6 := Lib.hid h6
  have HS1 := Lib.hid hS1
  have HX1 := Lib.hid hx1
  have HT0 : Hid (∀ A' c' bs' V, Wt W g (ob A bs c) A' c' bs' ((w.alloc (.cells #[.pointer (some ⟨g, 0, none⟩)] 59)).alloc (.cells #[.int .i64 (l.length : Int)] 3)) V → Wt W g (ob A bs c) A' c' bs' w V) := Lib.hid fun A' c' bs' V h => ((Wt.refl hS).below hb0).trans h
  have HEL : Hid (∀ V, Chg g (ob A bs c) ((w.alloc (.cells #[.pointer (some ⟨g, 0, none⟩)] 59)).alloc (.cells #[.int .i64 (l.length : Int)] 3)) V → ∀ k, (hk : k < l.length) → ∃ b o, A0 = some ⟨b, o, none⟩ ∧ V.cell? ⟨b, o + k, none⟩ = some (.int .i64 l[k])) := Lib.hid fun V hC k hk => by
    obtain ⟨b, o, hA0, hc0⟩ := hs1.int hk
    obtain ⟨hbg, hbr⟩ := hf b o hA0 (fun e => by subst e; simp at hk)
    refine ⟨b, o, hA0, ?_⟩
    rw [World.cell?_of_block (a := ⟨b, o + k, none⟩) (hC.block b (World.block_lt_of_cell? _ _ hc0) hbg (fun e => hbr e.symm))]
    exact hc0
  have HPL : Hid (∀ k, k ≤ l.length → (packL ((l.length : Int) :: l.take k)).length ≤ 10 * (k + 1)) := Lib.hid fun k => by
    induction k with
    | zero =>
      intro _
      have h2 := vb_len10 (zz_lt (n := (l.length : Int)) (by unfold In64p; omega))
      simp [packL, packI]
      exact h2
    | succ k ih =>
      intro hk
      have hlt : k < l.length := by omega
      have e : (l.length : Int) :: l.take (k + 1) = ((l.length : Int) :: l.take k) ++ [l[k]] := by rw [List.take_succ_eq_append_getElem hlt]; rfl
      rw [e, packL_append, List.length_append]
      have h1 := ih (by omega)
      have h2 := vb_len10 (zz_lt (h6 _ (List.getElem_mem hlt)))
      have h3 : packL [l[k]] = vb (zz l[k]) := by simp [packL, packI]
      rw [h3]
      omega
  have HIN := Lib.hid (wintsW W g A c bs (some ⟨w.heap.size + 1, 0, none⟩) 1 [(l.length : Int)] ((w.alloc (.cells #[.pointer (some ⟨g, 0, none⟩)] 59)).alloc (.cells #[.int .i64 (l.length : Int)] 3)) hS1 (by simp) (by simp; omega) (fun x hx => by rw [List.mem_singleton.1 hx]; unfold In64p; omega) (Sl.new1 _ _ _ _) (fun b o e _ => by
    injection e with e
    injection e with e _
    subst e
    exact ⟨by omega, fun e2 => own_newB hS.wr.own (Nat.le_succ _) e2⟩))
  clear hs hs1 hf h6 hS hS1 hb0 hx hx1
  go_enter Try.func26, Try.ntmps26
  go_wp2_with fail
  refine HIN.out.mono ?_
  rintro e w2 ⟨rfl, A1, c1, hW1⟩
  have HW0 := Lib.hid hW1
  generalize (w.alloc (.cells #[.pointer (some ⟨g, 0, none⟩)] 59)).alloc (.cells #[.int .i64 (l.length : Int)] 3) = W1 at *
  clear HIN hW1
  go_wp2_with fail
  go_loopw [15] (fun i wr => ∃ (k : Nat) (A2 : Option Addr) (c2 : Nat), k ≤ l.length ∧ i = .int .i64 k ∧ Wt W g (ob A bs c) A2 c2 (bs ++ packL ((l.length : Int) :: l.take k)) W1 wr) (fun i _ => l.length - (intOf i).toNat)
  case atStart => exact ⟨0, A1, c1, by omega, rfl, by simpa using HW0.out⟩
  case round =>
    obtain ⟨k, A2, c2, hk, rfl, hW⟩ := hrel
    by_cases hlk : k < l.length
    · have hlk1 : (k : Int) < (l.length : Int) := by omega
      have hk0 : (0 : Int) ≤ (k : Int) := by omega
      obtain ⟨b, o, hA0, hce⟩ := HEL.out wr hW.chg k hlk
      have hbox := HS1.out.keep hW.chg HX1.out (fun cs t f e => by injection e with _ e2 _; subst e2; decide)
      have hT : packL ((l.length : Int) :: l.take (k + 1)) = packL ((l.length : Int) :: l.take k) ++ packI l[k] := by
        have e : (l.length : Int) :: l.take (k + 1) = ((l.length : Int) :: l.take k) ++ [l[k]] := by rw [List.take_succ_eq_append_getElem hlk]; rfl
        rw [e, packL_append]; simp [packL]
      have hpk := HPL.out k hk
      obtain ⟨n, hn⟩ : ∃ n, l[k] = n := ⟨_, rfl⟩
      have hn6 : In64p n := by rw [← hn]; exact H6.out _ (List.getElem_mem hlk)
      rw [hn] at hce hT
      have HI := Lib.hid (enc1_any W g wb A2 c2 (bs ++ packL ((l.length : Int) :: l.take k)) n wr hW.s hbox (by rw [List.length_append]; omega) hn6)
      have HT := Lib.hid hT
      have HW := Lib.hid hW
      subst hA0
      clear hT hn hn6 hpk hbox hW
      go_wp2_with (first | (go_at_call 27; refine HI.out.mono ?_; rintro e w2 ⟨rfl, A3, c3, hW3⟩) | fail)
      have hWN := HW.out.trans hW3
      rw [List.append_assoc, ← HT.out] at hWN
      clear hW3 HI
      go_roundw
      case rel => exact ⟨k + 1, A3, c3, by omega, by go_num, hWN⟩
      case measure => simp [intOf]; omega
    · obtain rfl : k = l.length := by omega
      rw [List.take_length] at hW
      go_wp2_with fail
      go_end0
      exact ⟨rfl, A2, c2, HT0.out _ _ _ _ hW⟩
end Go.Proofs.Ytpmnjojednbnpaa
