/-
  Layer 7, seventh part: put where there is room (laid out of XFrame2 by a program).
-/
import Derived.Test.YtfibpkbbpnjepaaFrame6
import Derived.Laws.OwnMore
namespace Go.Proofs.Ytfibpkbbpnjepaa
open Go.ChangeShapes Go.WideShapes Go.ChangeAt Go.RowKit
set_option linter.unusedVariables false
set_option linter.unusedSimpArgs false

theorem wpList_fits {P : Program} {w : World} {ops : Array Oper} {rest : List Oper} {o : Oper} {a : Act} {Q : Exit → Act → World → Prop} (hgd : o.guard = none) (s x : Operand) {t e : TypeId} {size bytes : Nat}
    (ho : o.op = .call { callee := .builtin .append, args := #[s, x], argTypes := #[t, t] }) (E : Elem P t e size bytes) {base n m c d g : Nat} {B : Option Addr} {xs news : List Value}
    (hs : a.eval s = .slice (some ⟨g, 0, none⟩) n c) (hx : a.eval x = .slice B m d)
    (hown : w.ownsRow base e size (.slice (some ⟨g, 0, none⟩) n c) n xs) (hl : news.length = m * size) (hm : 0 < m) (hr : Sl w B news) (h1 : ∀ u ∈ news, u.oneCell' = true) (hroom : n + m ≤ c)
    (h : ∀ w', w'.ownsRow base e size (.slice (some ⟨g, 0, none⟩) (n + m) c) (n + m) (xs ++ news) → Below base w w' → wpList P ops Q rest (a.put o.dst (.slice (some ⟨g, 0, none⟩) (n + m) c)) w') :
    wpList P ops Q (o :: rest) a w :=
  wpList_plain hgd fun _ hK => by
    obtain ⟨i, z, hi, hz, hsize, hby, hzs⟩ := E.info
    have hne : news ≠ [] := by
      intro h0
      rw [h0, List.length_nil] at hl
      rcases Nat.mul_eq_zero.1 hl.symm with h | h
      · omega
      · have := E.pos; omega
    obtain ⟨b, o2, rfl, hc⟩ := hr hne
    obtain ⟨w', hrun, h2, h3⟩ := run_append_fits (P := P) w base t o.type e i size E.und hi hsize g n c xs hown ⟨b, o2, none⟩ m d news hl (fun j u hu => by rw [addr_add]; exact hc j u hu) h1 hroom
    have hb : Below base w w' := below_of_grown h3 (Nat.le_of_lt (Nat.lt_of_le_of_lt (own_ge hown g rfl) (hown.lt g rfl).2)) (fun b hb => by injection hb with hb; subst hb; exact own_ge hown _ rfl)
    unfold Oper.wp execOp
    simp only [ho, resolve, invoke, builtin, Sem.run_bind, Sem.run_pure, Result.andThen_ok, List.map_toArray, List.map_cons, List.map_nil, hs, hx, hrun]
    exact hK _ _ (h w' h2 hb)
set_option maxHeartbeats 4000000 in
set_option maxRecDepth 100000 in
theorem put7_fit (W g : Nat) (c : Nat) (xs : List Nat) (n s : Nat) (w : World) (hs : s ≤ 8) (hn : n < 9223372036854775808) (hxl : xs.length + s ≤ c) (hcm : c ≤ 1000000) (hW : W ≤ w.heap.size) (hown : w.ownsRow W 5 1 (.slice (some ⟨g, 0, none⟩) xs.length c) xs.length (by8 xs)) :
    Calls Try.prog 21 #[.slice (some ⟨g, 0, none⟩) xs.length c, .int .i64 n, .int .i64 s] w fun e w' => e = .returned (.slice (some ⟨g, 0, none⟩) (xs ++ bign s n).length c) ∧ w'.ownsRow W 5 1 (.slice (some ⟨g, 0, none⟩) (xs ++ bign s n).length c) (xs ++ bign s n).length (by8 (xs ++ bign s n)) ∧ Below W w w' := by
  have HB := Lib.hid (fun j (h : j < s) => bign_take (n := n) h)
  have HL := Lib.hid (bign_len s n)
  obtain ⟨Y, hY⟩ : ∃ Y, bign s n = Y := ⟨_, rfl⟩
  rw [hY] at HB HL ⊢
  clear hY
  go_enter Try.func21, Try.ntmps21
  go_wp2_with fail
  go_loopw [0, 7] (fun bv iv wr => ∃ (j : Nat), j ≤ s ∧ bv = .slice (some ⟨g, 0, none⟩) (xs ++ Y.take j).length c ∧ iv = .int .i64 ((s : Int) - 1 - j) ∧ wr.ownsRow W 5 1 (.slice (some ⟨g, 0, none⟩) (xs ++ Y.take j).length c) (xs ++ Y.take j).length (by8 (xs ++ Y.take j)) ∧ Below W w wr ∧ W ≤ wr.heap.size) (fun _ iv _ => (intOf iv + 1).toNat)
  case atStart => exact ⟨0, by omega, by simp, by simp, by simpa using hown, Below.refl _ _, hW⟩
  case round =>
    obtain ⟨j, hj, rfl, rfl, own2, hB, hWs⟩ := hrel
    clear hown
    by_cases hlt : j < s
    · have hT := HB.out j hlt
      obtain ⟨z, hz⟩ : ∃ z : Int, (s : Int) - 1 - j = z := ⟨_, rfl⟩
      rw [hz]
      have hz0 : 0 ≤ z := by omega
      have hz7 : z ≤ 7 := by omega
      obtain ⟨m, hm⟩ : ∃ m : Int, (n : Int) = m := ⟨_, rfl⟩
      rw [hm]
      have hm0 : 0 ≤ m := by omega
      have HZ := Lib.hid hz
      have HM := Lib.hid hm
      clear hz hm
      have HV : Hid (m / 2 ^ (8 * z).toNat % 256 = ((n / 256 ^ (s - 1 - j) % 256 : Nat) : Int)) := Lib.hid (by
        have e1 : (8 * z).toNat = 8 * (s - 1 - j) := by have := HZ.out; omega
        have e2 : (2 : Int) ^ (8 * (s - 1 - j)) = ((256 ^ (s - 1 - j) : Nat) : Int) := by
          rw [Int.pow_mul]; push_cast; rfl
        rw [e1, e2, ← HM.out]
        push_cast
        rfl)
      have HT := Lib.hid hT
      have hpl : (xs ++ Y.take j).length + 1 ≤ c := by rw [List.length_append, List.length_take]; omega
      obtain ⟨P, hP⟩ : ∃ P, xs ++ Y.take j = P := ⟨_, rfl⟩
      have HP : Hid (xs ++ Y.take (j + 1) = P ++ [n / 256 ^ (s - 1 - j) % 256]) := Lib.hid (by rw [HT.out, ← hP, List.append_assoc])
      rw [hP] at own2 hpl ⊢
      clear hP hT HT
      have hzi : z - 1 = (s : Int) - 1 - ((j + 1 : Nat) : Int) := by have := HZ.out; omega
      have HZI := Lib.hid hzi
      clear hzi
      go_wp2_with (first
        | (at_builtin; refine wpList_fits rfl (.tmp 14) (.tmp 20) rfl EF8 rfl rfl (own2.alloc _) (m := 1) (news := [.int .u8 (m / 2 ^ (8 * z).toNat % 256)]) rfl (by decide) (Sl.new_ _ _ _) (fun u hu => by simp only [List.mem_cons, List.not_mem_nil, or_false] at hu; subst hu; rfl) hpl ?_; intro w3 own3 hb3)
        | fail)
      rw [HV.out] at own3
      have hB3 := (hB.trans (((Below.refl _ wr).alloc (Nat.le_refl _) _).mono hWs)).trans hb3
      have hW3 : W ≤ w3.heap.size := by have := hb3.size; rw [World.size_alloc] at this; omega
      go_roundw
      case rel => exact ⟨j + 1, by omega, by rw [HP.out]; simp, by rw [← HZI.out], by rw [HP.out]; simpa [by8] using own3, hB3, hW3⟩
      case measure => simp [intOf]; omega
    · obtain rfl : j = s := by omega
      have e1 : Y.take j = Y := by rw [← HL.out, List.take_length]
      rw [e1] at own2 ⊢
      obtain ⟨z, hz⟩ : ∃ z : Int, (j : Int) - 1 - j = z := ⟨_, rfl⟩
      rw [hz]
      have hz0 : ¬ (0 : Int) ≤ z := by omega
      clear hz
      go_wp2_with fail
      go_ret
      exact ⟨by simp only [List.length_append]; rfl, by simpa only [List.length_append] using own2, hB⟩

end Go.Proofs.Ytfibpkbbpnjepaa
