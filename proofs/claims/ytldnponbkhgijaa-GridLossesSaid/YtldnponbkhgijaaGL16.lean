import Derived.Test.YtldnponbkhgijaaGL03
import Derived.Test.YtldnponbkhgijaaGL15
import Derived.Test.YtldnponbkhgijaaGL14
section
namespace Go.Proofs.Ytldnponbkhgijaa
open Go.ChangeShapes Go.WideShapes Go.ChangeAt Go.RowKit
set_option linter.unusedVariables false
set_option linter.unusedSimpArgs false

structure RowS (α : Type) where
  A : Option Addr
  c : Nat
  l : List α
section
variable {α : Type}
def RowS.cells (s : RowS α) : List Value := [.slice s.A s.l.length s.c]
def RowS.val (s : RowS α) : Value := .slice s.A s.l.length s.c
theorem RowS.len (s : RowS α) : s.cells.length = 1 := rfl
theorem RowS.one (s : RowS α) : ∀ u ∈ s.cells, u.oneCell' = true := by
  intro u hu
  simp only [RowS.cells, List.mem_cons, List.not_mem_nil, or_false] at hu
  subst hu; rfl
def RowS.all (S : List (RowS α)) : List α := (S.map RowS.l).flatten
def RowsOk (w : World) (f : α → List Value) (S : List (RowS α)) : Prop := ∀ s ∈ S, Sl w s.A (rc f s.l)
theorem RowsOk.below {w w' : World} {f : α → List Value} {S : List (RowS α)} (h : RowsOk w f S) (hb : Below w.heap.size w w') : RowsOk w' f S := fun s hs => (h s hs).below hb
theorem RowsOk.alloc {w : World} {f : α → List Value} {S : List (RowS α)} (h : RowsOk w f S) (o : Obj) : RowsOk (w.alloc o) f S := fun s hs => (h s hs).alloc o
theorem RowsOk.drew {w : World} {f : α → List Value} {S : List (RowS α)} (h : RowsOk w f S) : RowsOk w.drew f S := h
theorem rd_rowsP {w : World} {f : α → List Value} {p : α → Prop} {s : Shape} {A : Option Addr} {n c : Nat} (hf : ∀ r, Rd w s r → ∃ g, r = f g ∧ p g) (h : Rd w (.sl s) [.slice A n c]) :
    ∃ l : List α, l.length = n ∧ n ≤ c ∧ c ≤ maxLen ∧ Sl w A (rc f l) ∧ ∀ y ∈ l, p y := by
  obtain ⟨A', n', c', rows, e, h1, h2, h3, h4, h5⟩ := h
  simp only [List.cons.injEq, Value.slice.injEq, and_true] at e
  obtain ⟨rfl, rfl, rfl⟩ := e
  have key : ∀ rows : List (List Value), (∀ r ∈ rows, Rd w s r) → ∃ l : List α, l.length = rows.length ∧ rows.flatten = rc f l ∧ ∀ y ∈ l, p y := by
    intro rows
    induction rows with
    | nil => intro _; exact ⟨[], rfl, rfl, fun y hy => by cases hy⟩
    | cons r rows ih =>
      intro h
      obtain ⟨l, a1, a2, a3⟩ := ih (fun x hx => h x (by simp [hx]))
      obtain ⟨x, rfl, hx⟩ := hf r (h r (by simp))
      refine ⟨x :: l, by simp [a1], by simp [a2, rc], fun y hy => ?_⟩
      rcases List.mem_cons.1 hy with rfl | hy
      · exact hx
      · exact a3 y hy
  obtain ⟨l, a1, a2, a3⟩ := key rows h5
  rw [a2] at h4
  exact ⟨l, by omega, h1, h2, h4, a3⟩
end
end Go.Proofs.Ytldnponbkhgijaa
end
section
namespace Go.Proofs.Ytldnponbkhgijaa
open Go.ChangeShapes Go.WideShapes Go.ChangeAt Go.RowKit
set_option linter.unusedVariables false
set_option linter.unusedSimpArgs false

def GI9 (w : World) (l : List Iq) : Prop := ∀ g ∈ l, ∃ i : Ins, GI w g i ∧ i.mv.length ≤ 9
theorem GI9.below {w w' : World} {l : List Iq} (h : GI9 w l) (hb : Below w.heap.size w w') : GI9 w' l := fun g hg => by
  obtain ⟨i, hi, hl⟩ := h g hg
  exact ⟨i, hi.below hb, hl⟩
theorem GI9.tab {w : World} : ∀ {l : List Iq}, GI9 w l → ∃ is : List Ins, InTab w l is ∧ ∀ i ∈ is, i.mv.length ≤ 9
  | [], _ => ⟨[], InTab.nil w, fun i h => by cases h⟩
  | g :: l, h => by
    obtain ⟨is, ht, hl⟩ := GI9.tab (l := l) fun x hx => h x (List.mem_cons_of_mem _ hx)
    obtain ⟨i, hi, h9⟩ := h g List.mem_cons_self
    refine ⟨i :: is, InTab.cons hi ht, fun x hx => ?_⟩
    rcases List.mem_cons.1 hx with rfl | hx
    · exact h9
    · exact hl x hx
def ITabRes (w w' : World) (e : Ending) : Prop :=
  ∃ (R : List Iq) (A' : Option Addr) (c' : Nat), e = .returned (.slice A' R.length c') ∧ w'.ownsRow w.heap.size 153 5 (.slice A' R.length c') R.length (rc Iq.cells R) ∧ GI9 w R ∧ R.length ≤ 10
set_option maxHeartbeats 4000000 in
set_option maxRecDepth 100000 in
theorem rtablei_any (A : Option Addr) (cap : Nat) (l : List Iq) (w : World) (hs : Sl w A (rc Iq.cells l)) (hd : GI9 w l) :
    Calls Try.prog 105 #[.slice A l.length cap] w fun e w' => ITabRes w w' e ∧ Below w.heap.size w w' := by
  go_enter Try.func105, Try.ntmps105
  go_wp2_with fail
  go_loopw [3, 4] (fun out i wr => ∃ (k : Nat) (R : List Iq) (A' : Option Addr) (c' : Nat), k ≤ l.length ∧ k ≤ 10 ∧ i = .int .i64 k ∧ out = .slice A' R.length c' ∧ wr.ownsRow w.heap.size 153 5 (.slice A' R.length c') R.length (rc Iq.cells R) ∧ SortedI R ∧ GI9 w R ∧ R.length ≤ k ∧ Below w.heap.size w wr) (fun _ i _ => l.length - (intOf i).toNat)
  case atStart => exact ⟨0, [], none, 0, by omega, by omega, rfl, rfl, own_nil _ _ _, List.Pairwise.nil, (fun g h => by cases h), by simp, Below.refl _ _⟩
  case round =>
    obtain ⟨k, R, A', c', hk, hk10, rfl, rfl, hown, hsd, hgd, hRk, hB⟩ := hrel
    by_cases hgo : k < l.length ∧ k < 10
    · obtain ⟨hlt, hlt10⟩ := hgo
      obtain ⟨b, o, rfl, hbw, hg⟩ := (hs.below hB).iq hlt
      obtain ⟨i, hi, h9⟩ := hd l[k] (List.getElem_mem hlt)
      have hlk : (k : Int) < (l.length : Int) := by omega
      have hlk10 : (k : Int) < 10 := by omega
      generalize l[k] = v at *
      have hQ : ∀ W, Below wr.heap.size wr W → Calls Try.prog 169 #[v.val] W fun e w' => e = .returned (.bool (okB i)) ∧ Below W.heap.size W w' := fun W hW => by
        rw [hi.val]
        exact ris_any i v.mv v.mvC W ((hi.at_.below hB).below hW)
      have HPT := rputi_any w.heap.size A' c' R v (okB i) wr hQ (by omega) hown hsd
      have HSD := Lib.hid hsd
      have HGD := Lib.hid hgd
      have hcase : putIR (okB i) R v = (0, putR ahI R v) ∨ ∃ n, n ≠ 0 ∧ putIR (okB i) R v = (n, []) := by
        unfold putIR
        split
        · exact .inr ⟨2, by decide, rfl⟩
        · split
          · exact .inr ⟨12, by decide, rfl⟩
          · exact .inl rfl
      have HG : Hid (GI9 w (putR ahI R v)) := Lib.hid fun g hg => by
        rcases mem_putR _ _ _ hg with rfl | hg
        · exact ⟨i, hi, h9⟩
        · exact hgd g hg
      have HP : Hid (SortedI (putR ahI R v)) := Lib.hid (pairwise_putR ordI _ R hsd)
      have hpl := length_putR (ah := ahI) v R
      clear hs hbw hsd hgd hd hQ hi h9
      obtain ⟨vid, vm, vp, vx, vc, vcL, vcC⟩ := v
      obtain ⟨g0, g1, g2, g3, g4⟩ := hg
      simp only at g0 g1 g2 g3 g4
      rcases hcase with hR | ⟨n, hn, hR⟩
      · rw [hR] at HPT
        clear hR
        unfold Iq.val at HPT
        simp only at HPT
        generalize putR ahI R ⟨vid, vm, vp, vx, vc, vcL, vcC⟩ = M at *
        have HPT := Lib.hid HPT
        go_wp2_with fail
        refine HPT.out.mono ?_
        rintro e w1 ⟨⟨A1, c1, rfl, hown1⟩, hb1⟩
        have hB2 := since_step hB hb1
        have hown2 := own_base hown1 hB.size
        clear hown hown1 hb1 g0 g1 g2 g3 g4
        go_wp2_with fail
        go_roundw
        case rel => exact ⟨k + 1, M, A1, c1, by omega, by omega, by go_num, rfl, hown2, HP.out, HG.out, by omega, hB2⟩
        case measure => simp [intOf]; omega
      · rw [hR] at HPT
        clear hR HG HP
        unfold Iq.val at HPT
        simp only at HPT
        have HPT := Lib.hid HPT
        have hnb : (n == 0) = false := by simpa using hn
        go_wp2_with fail
        refine HPT.out.mono ?_
        rintro e w1 ⟨⟨A1, c1, rfl, hown1⟩, hb1⟩
        have hB2 := since_step hB hb1
        have hown2 := own_below hown hb1
        clear hown hown1 hb1 g0 g1 g2 g3 g4
        go_wp2_with fail
        go_roundw
        case rel => exact ⟨k + 1, R, A', c', by omega, by omega, by go_num, rfl, hown2, HSD.out, HGD.out, by omega, hB2⟩
        case measure => simp [intOf]; omega
    · have hend : ¬ ((k : Int) < (l.length : Int)) ∨ ((k : Int) < (l.length : Int) ∧ ¬ ((k : Int) < 10)) := by omega
      have HF := Lib.hid (show GI9 w R ∧ R.length ≤ 10 from ⟨hgd, by omega⟩)
      clear hgo hsd hgd
      rcases hend with h1 | ⟨h1, h2⟩
      all_goals
        go_wp2_with fail
        go_ret
        exact ⟨⟨R, A', c', rfl, hown, HF.out.1, HF.out.2⟩, hB⟩
theorem rd_insrow {w : World} {r : List Value} (h : Rd w (.cat (.int .i64) (.cat (.int .i64) (.cat (.int .i64) (.cat (.int .i64) (.cat (.sl (.int .i64)) .nil))))) r) : ∃ g : Iq, r = g.cells ∧ ∃ i : Ins, GI w g i := by
  obtain ⟨x1, y1, rfl, ⟨n1, rfl, w1⟩, x2, y2, rfl, ⟨n2, rfl, w2⟩, x3, y3, rfl, ⟨n3, rfl, w3⟩, x4, y4, rfl, ⟨n4, rfl, w4⟩, x5, y5, rfl, h5, rfl⟩ := h
  obtain ⟨A, n, c, rows, rfl, r⟩ := _root_.id h5
  obtain ⟨l, hl, hc, hm, hs, hw⟩ := rd_ints h5
  exact ⟨⟨n1, n2, n3, n4, A, n, c⟩, rfl, ⟨n1, n2, n3, n4, l⟩, ⟨rfl, rfl, rfl, rfl, hl.symm, ⟨⟨by simp only; omega, hm⟩, hs, All64.ofI hw, bd_i64 w1, bd_i64 w2, bd_i64 w3, bd_i64 w4⟩⟩⟩
def ITab (w' : World) (e : Ending) : Prop :=
  ∃ (R : List Iq) (is : List Ins) (A' : Option Addr) (c' : Nat), e = .returned (.slice A' R.length c') ∧ Sl w' A' (rc Iq.cells R) ∧ InTab w' R is ∧ R.length ≤ 10 ∧ ∀ i ∈ is, i.mv.length ≤ 9
set_option maxHeartbeats 4000000 in
set_option maxRecDepth 100000 in
theorem insts_any (A : Option Addr) (cap : Nat) (l : List Iq) (w : World) (hs : Sl w A (rc Iq.cells l)) (hd : ∀ g ∈ l, ∃ i : Ins, GI w g i) :
    Calls Try.prog 43 #[.slice A l.length cap] w fun e w' => ITab w' e ∧ Below w.heap.size w w' := by
  go_enter Try.func43, Try.ntmps43
  go_wp2_with fail
  go_loopw [3, 4] (fun out i wr => ∃ (k : Nat) (R : List Iq) (A' : Option Addr) (c' : Nat), k ≤ l.length ∧ k ≤ 10 ∧ i = .int .i64 k ∧ out = .slice A' R.length c' ∧ wr.ownsRow w.heap.size 153 5 (.slice A' R.length c') R.length (rc Iq.cells R) ∧ GI9 w R ∧ R.length ≤ k ∧ Below w.heap.size w wr) (fun _ i _ => l.length - (intOf i).toNat)
  case atStart => exact ⟨0, [], none, 0, by omega, by omega, rfl, rfl, own_nil _ _ _, (fun g h => by cases h), by simp, Below.refl _ _⟩
  case round =>
    obtain ⟨k, R, A', c', hk, hk10, rfl, rfl, hown, hgd, hRk, hB⟩ := hrel
    by_cases hgo : k < l.length ∧ k < 10
    · obtain ⟨hlt, hlt10⟩ := hgo
      obtain ⟨b, o, rfl, hbw, hg⟩ := (hs.below hB).iq hlt
      obtain ⟨i, hi⟩ := hd l[k] (List.getElem_mem hlt)
      have hlk : (k : Int) < (l.length : Int) := by omega
      have hlk10 : (k : Int) < 10 := by omega
      have hsz := hB.size
      generalize l[k] = v at *
      obtain ⟨vid, vm, vp, vx, vc, vcL, vcC⟩ := v
      obtain ⟨i0, i1, i2, i3, i4, hat⟩ := hi
      simp only at i0 i1 i2 i3 i4 hat
      subst i0; subst i1; subst i2; subst i3; subst i4
      obtain ⟨g0, g1, g2, g3, g4⟩ := hg
      simp only at g0 g1 g2 g3 g4
      have hcap := hat.cap
      by_cases h9 : 9 < i.mv.length
      · have h9i : (9 : Int) < (i.mv.length : Int) := by omega
        have hT9 : (i.mv.take 9).length = 9 := by simp; omega
        have HG : Hid (GI9 w (R ++ [⟨i.id, i.mult, i.price, i.nxt, vc, 9, vcC⟩])) := Lib.hid fun g hg => by
          rcases List.mem_append.1 hg with hg | hg
          · exact hgd g hg
          · rw [List.mem_singleton.1 hg]
            exact ⟨⟨i.id, i.mult, i.price, i.nxt, i.mv.take 9⟩, ⟨rfl, rfl, rfl, rfl, hT9.symm, ⟨⟨by simp only [hT9]; omega, hcap.2⟩, sl_takeI hat.sl 9, All64.takeI hat.mv64 9, hat.n64⟩⟩, by simp only [hT9]; omega⟩
        have h9c : (9 : Nat) ≤ vcC := by omega
        have h9d : (9 : Int) ≤ (vcC : Int) := by omega
        clear hT9 hgd hat hd hs hcap
        generalize i.mv.length = n at *
        go_wp2_with (first
          | (at_builtin; refine wpList_app rfl (.tmp 28) (.tmp 30) rfl EIq rfl rfl ((hown.alloc _).alloc _) (m := 1) (news := (⟨i.id, i.mult, i.price, i.nxt, vc, 9, vcC⟩ : Iq).cells) rfl (Sl.new1 _ _ _ _) (Iq.one _) (by unfold maxLen; omega) (by omega) (by simp only [World.size_alloc]; omega) ?_; intro A2 c2 w3 hown3 hg3 hb3)
          | fail)
        go_roundw
        case rel =>
          refine ⟨k + 1, R ++ [⟨i.id, i.mult, i.price, i.nxt, vc, 9, vcC⟩], A2, c2, by omega, by omega, by go_num, by simp, ?_, HG.out, by simp; omega, (since_alloc (since_alloc hB _) _).trans hb3⟩
          rw [rc_append]; simpa [rc] using hown3
        case measure => simp [intOf]; omega
      · have h9i : ¬ ((9 : Int) < (i.mv.length : Int)) := by omega
        have HG : Hid (GI9 w (R ++ [⟨i.id, i.mult, i.price, i.nxt, vc, i.mv.length, vcC⟩])) := Lib.hid fun g hg => by
          rcases List.mem_append.1 hg with hg | hg
          · exact hgd g hg
          · rw [List.mem_singleton.1 hg]
            exact ⟨i, ⟨rfl, rfl, rfl, rfl, rfl, hat⟩, by omega⟩
        clear hgd hat hd hs hcap
        generalize i.mv.length = n at *
        go_wp2_with (first
          | (at_builtin; refine wpList_app rfl (.tmp 28) (.tmp 30) rfl EIq rfl rfl ((hown.alloc _).alloc _) (m := 1) (news := (⟨i.id, i.mult, i.price, i.nxt, vc, n, vcC⟩ : Iq).cells) rfl (Sl.new1 _ _ _ _) (Iq.one _) (by unfold maxLen; omega) (by omega) (by simp only [World.size_alloc]; omega) ?_; intro A2 c2 w3 hown3 hg3 hb3)
          | fail)
        go_roundw
        case rel =>
          refine ⟨k + 1, R ++ [⟨i.id, i.mult, i.price, i.nxt, vc, n, vcC⟩], A2, c2, by omega, by omega, by go_num, by simp, ?_, HG.out, by simp; omega, (since_alloc (since_alloc hB _) _).trans hb3⟩
          rw [rc_append]; simpa [rc] using hown3
        case measure => simp [intOf]; omega
    · have hend : ¬ ((k : Int) < (l.length : Int)) ∨ ((k : Int) < (l.length : Int) ∧ ¬ ((k : Int) < 10)) := by omega
      have HT := Lib.hid (rtablei_any A' c' R wr (Sl.of_own hown) (hgd.below hB))
      clear hgo hgd
      rcases hend with h1 | ⟨h1, h2⟩
      all_goals
        go_wp2_with fail
        refine HT.out.mono ?_
        rintro e w2 ⟨⟨Q, A3, c3, rfl, own3, hg3, hQ⟩, hb⟩
        have hB2 := since_step hB hb
        obtain ⟨is, ht, h9⟩ := (hg3.below hb).tab
        go_wp2_with fail
        go_ret
        exact ⟨⟨Q, is, A3, c3, rfl, Sl.of_own own3, ht, hQ, h9⟩, hB2⟩
end Go.Proofs.Ytldnponbkhgijaa
end
section
namespace Go.Proofs.Ytldnponbkhgijaa
open Go.ChangeShapes Go.WideShapes Go.ChangeAt Go.RowKit
set_option linter.unusedVariables false
set_option linter.unusedSimpArgs false

theorem abs_mul_le {a b A B : Int} (ha : -A ≤ a ∧ a ≤ A) (hb : -B ≤ b ∧ b ≤ B) : -(A * B) ≤ a * b ∧ a * b ≤ A * B := by
  have h1 : (a.natAbs : Int) ≤ A := by omega
  have h2 : (b.natAbs : Int) ≤ B := by omega
  have h3 : ((a * b).natAbs : Int) ≤ A * B := by
    rw [Int.natAbs_mul, Int.natCast_mul]
    exact Int.mul_le_mul h1 h2 (by omega) (by omega)
  omega
theorem move_in {q m t : Int} (hq : In64 q) (hm : -2147483647 ≤ m ∧ m ≤ 2147483647) (ht : 1 ≤ t ∧ t ≤ 65536) : In64 m ∧ In64 t ∧ In128 (q * m) ∧ In128 (q * m * t) := by
  unfold In64 at hq
  have h1 := abs_mul_le (A := 9223372036854775808) (B := 2147483647) (a := q) (b := m) (by omega) (by omega)
  have h2 := abs_mul_le (A := 9223372036854775808 * 2147483647) (B := 65536) (a := q * m) (b := t) (by omega) (by omega)
  unfold In64 In128
  generalize q * m * t = z at *
  generalize q * m = y at *
  omega
set_option maxHeartbeats 2000000 in
theorem made_any (q m t : Int) (hq : In64 q) (hm : -2147483647 ≤ m ∧ m ≤ 2147483647) (ht : 1 ≤ t ∧ t ≤ 65536) (w : World) :
    Calls Try.prog 168 #[.int .i64 q, .int .i64 m, .int .i64 t] w fun e w' => e = .returned (.agg #[.int .i64 (hiN (q * m * t)), .int .u64 (loN (q * m * t))]) ∧ Below w.heap.size w w' := by
  obtain ⟨hm64, ht64, hin, hin2⟩ := move_in hq hm ht
  have hcs := @cell_set
  have HM := Lib.hid (fun w => wmul_any q m hq hm64 w)
  have HT := fun w => wtimes_any (q * m) t hin ht64 w
  rw [wideE_yes hin2] at HT
  have HT := Lib.hid HT
  generalize q * m * t = z at *
  generalize q * m = y at *
  clear hq hm ht hm64 ht64 hin hin2
  go_enter Try.func168, Try.ntmps168
  go_wp2_with fail
  refine (HM.out _).mono ?_
  rintro e w1 ⟨rfl, hb1⟩
  have A2 : T2 w1 w.heap.size 0 0 := (T2.new w 0 0 28).below hb1
  have hB1 := since_step (since_alloc (Below.refl _ _) _) hb1
  clear hb1
  go_wp2_with fail
  refine (HT.out _).mono ?_
  rintro e w2 ⟨rfl, hb2⟩
  have B2 := A2.below hb2
  have hB2 := since_step hB1 hb2
  have hsz := B2.1
  have hn1 : ¬ w.heap.size = w2.heap.size := by omega
  have hn2 : ¬ w2.heap.size = w.heap.size := by omega
  obtain ⟨q0, q1, q2, q3, q4⟩ := _root_.id B2
  clear hb2 A2 hB1
  go_wp2_with fail
  refine bodyPost_ret (v := .agg #[.int .i64 (hiN z), .int .u64 (loN z)]) ?_ rfl ?_
  · obtain ⟨f0, f1, f2, f3, f4⟩ := (B2.set2 (hiN z) (loN z)).alloc (.cells #[.int .i64 (hiN z), .int .u64 (loN z)] 28)
    simp [results, Try.results168, go_sem, f1, f2]
  · refine ⟨rfl, ?_⟩
    repeat' (first | with_reducible exact hB2 | with_reducible refine Below.setCell ?_ ?_ _ | with_reducible refine since_alloc ?_ _)
    all_goals first | (simp; done) | (simp; omega)
theorem ok_mult {i : Ins} (h : okB i = true) : 1 ≤ i.mult ∧ i.mult ≤ 65536 := by
  unfold okB headB at h
  simp only [Bool.and_eq_true, decide_eq_true_eq] at h
  omega
theorem ok_move {i : Ins} (h : okB i = true) {k : Nat} (hk : k < i.mv.length) : -2147483647 ≤ i.mv[k] ∧ i.mv[k] ≤ 2147483647 := by
  unfold okB at h
  simp only [Bool.and_eq_true, List.all_eq_true] at h
  have := h.2 _ (List.getElem_mem hk)
  simp only [mvB, Bool.and_eq_true, decide_eq_true_eq] at this
  exact this
end Go.Proofs.Ytldnponbkhgijaa
end
