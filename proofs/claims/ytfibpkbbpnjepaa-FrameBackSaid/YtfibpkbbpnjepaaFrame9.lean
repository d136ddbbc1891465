/-
  Layer 7, ninth part: Encode of the program where it may be (laid by gen_frame9.py).
-/
import Derived.Test.YtfibpkbbpnjepaaFrame8
import Derived.Deep.AppendSrc
import Derived.Deep.Upon
namespace Go.Proofs.Ytfibpkbbpnjepaa
open Go.ChangeShapes Go.WideShapes Go.ChangeAt Go.RowKit
set_option linter.unusedVariables false
set_option linter.unusedSimpArgs false

theorem wpList_zr {w : World} {ops : Array Oper} {rest : List Oper} {o : Oper} {a : Act} {Q : Exit → Act → World → Prop} (hgd : o.guard = none) (s x : Operand)
    (ho : o.op = .call { callee := .builtin .append, args := #[s, x], argTypes := #[22, 3] }) {W g n c k : Nat} {K : Int} {l : List Nat}
    (hs : a.eval s = .slice (some ⟨g, 0, none⟩) n c) (hx : a.eval x = .int .i64 K) (hK : K = (k : Int))
    (hown : w.ownsRow W 5 1 (.slice (some ⟨g, 0, none⟩) n c) n (by8 l)) (hroom : n + k ≤ c) (hc : c ≤ 1000000)
    (h : ∀ w', w'.ownsRow W 5 1 (.slice (some ⟨g, 0, none⟩) (n + k) c) (n + k) (by8 (l ++ List.replicate k 0)) → Below W w w' → wpList Try.prog ops Q rest (a.put o.dst (.slice (some ⟨g, 0, none⟩) (n + k) c)) w') :
    wpList Try.prog ops Q (o :: rest) a w :=
  wpList_plain hgd fun _ hK2 => by
    subst hK
    by_cases hk : 0 < k
    · obtain ⟨w', hrun, h2, h3⟩ := run_zeros_room (w := w) o.type hown hk hroom hc
      have hb : Below W w w' := below_of_grown h3 (Nat.le_of_lt (Nat.lt_of_le_of_lt (own_ge hown g rfl) (hown.lt g rfl).2)) (fun b hb => by injection hb with hb; subst hb; exact own_ge hown _ rfl)
      unfold Oper.wp execOp
      simp only [ho, resolve, invoke, builtin, Sem.run_bind, Sem.run_pure, Result.andThen_ok, List.map_toArray, List.map_cons, List.map_nil, hs, hx, hrun]
      exact hK2 _ _ (h w' h2 hb)
    · obtain rfl : k = 0 := by omega
      have hrun := run_zeros_none (w := w) o.type (g := g) (n := n) (c := c) (by omega)
      unfold Oper.wp execOp
      simp only [ho, resolve, invoke, builtin, Sem.run_bind, Sem.run_pure, Result.andThen_ok, List.map_toArray, List.map_cons, List.map_nil, hs, hx, Int.natCast_zero, Int.cast_ofNat_Int, hrun]
      exact hK2 _ _ (h w (by simpa using hown) (Below.refl _ _))
theorem wpList_fits0 {w : World} {ops : Array Oper} {rest : List Oper} {o : Oper} {a : Act} {Q : Exit → Act → World → Prop} (hgd : o.guard = none) (s x : Operand)
    (ho : o.op = .call { callee := .builtin .append, args := #[s, x], argTypes := #[22, 22] }) {W n m c d g : Nat} {B : Option Addr} {l news : List Nat}
    (hs : a.eval s = .slice (some ⟨g, 0, none⟩) n c) (hx : a.eval x = .slice B m d)
    (hown : w.ownsRow W 5 1 (.slice (some ⟨g, 0, none⟩) n c) n (by8 l)) (hl : news.length = m) (hr : Sl w B (by8 news)) (hroom : n + m ≤ c)
    (h : ∀ w', w'.ownsRow W 5 1 (.slice (some ⟨g, 0, none⟩) (n + m) c) (n + m) (by8 (l ++ news)) → Below W w w' → wpList Try.prog ops Q rest (a.put o.dst (.slice (some ⟨g, 0, none⟩) (n + m) c)) w') :
    wpList Try.prog ops Q (o :: rest) a w := by
  by_cases hm : 0 < m
  · exact wpList_fits hgd s x ho EF8 hs hx hown (news := by8 news) (by rw [by8_length]; omega) hm hr (by8_one _) hroom fun w' h1 h2 => h w' (by rw [by8_append]; exact h1) h2
  · obtain rfl : m = 0 := by omega
    have hn : news = [] := List.eq_nil_of_length_eq_zero hl
    subst hn
    refine wpList_plain hgd fun _ hK2 => ?_
    obtain ⟨i, z, hi, hz, hsize, hby, hzs⟩ := EF8.info
    have hsrc : Src Try.prog i.size 22 (.slice B 0 d) 0 [] w := by
      cases B with
      | none => exact Src.ofNil w EF8.und d
      | some a => exact Src.ofSlice w EF8.und a 0 d [] (by simp) (fun j u hu => by simp at hu) (fun u hu => by cases hu)
    have hrun := run_append_nothing w 22 22 o.type 5 i EF8.und hi (some ⟨g, 0, none⟩) n c (by omega) _ hsrc
    unfold Oper.wp execOp
    simp only [ho, resolve, invoke, builtin, Sem.run_bind, Sem.run_pure, Result.andThen_ok, List.map_toArray, List.map_cons, List.map_nil, hs, hx, hrun]
    exact hK2 _ _ (h w (by simpa using hown) (Below.refl _ _))
end Go.Proofs.Ytfibpkbbpnjepaa
