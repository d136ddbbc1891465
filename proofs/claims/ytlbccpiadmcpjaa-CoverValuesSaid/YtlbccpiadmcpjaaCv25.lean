import Derived.Test.YtlbccpiadmcpjaaCv02
import Derived.Test.YtlbccpiadmcpjaaCv23
import Derived.Test.YtlbccpiadmcpjaaCv24
section
namespace Go.Proofs.Ytlbccpiadmcpjaa
open Go.ChangeShapes Go.WideShapes Go.ChangeAt Go.RowKit
set_option linter.unusedVariables false
set_option linter.unusedSimpArgs false

structure RowS (α : Type) where
  A : Option Addr
  c : Nat
  l : List α
section
variable {α : Type}
def RowS.cells (s : RowS α) : List Value := [.slice s.A s.l.length s.c]
def RowS.val (s : RowS α) : Value := .slice s.A s.l.length s.c
theorem RowS.len (s : RowS α) : s.cells.length = 1 := rfl
theorem RowS.one (s : RowS α) : ∀ u ∈ s.cells, u.oneCell' = true := by
  intro u hu
  simp only [RowS.cells, List.mem_cons, List.not_mem_nil, or_false] at hu
  subst hu; rfl
def RowS.all (S : List (RowS α)) : List α := (S.map RowS.l).flatten
def RowsOk (w : World) (f : α → List Value) (S : List (RowS α)) : Prop := ∀ s ∈ S, Sl w s.A (rc f s.l)
theorem RowsOk.below {w w' : World} {f : α → List Value} {S : List (RowS α)} (h : RowsOk w f S) (hb : Below w.heap.size w w') : RowsOk w' f S := fun s hs => (h s hs).below hb
theorem RowsOk.alloc {w : World} {f : α → List Value} {S : List (RowS α)} (h : RowsOk w f S) (o : Obj) : RowsOk (w.alloc o) f S := fun s hs => (h s hs).alloc o
theorem RowsOk.drew {w : World} {f : α → List Value} {S : List (RowS α)} (h : RowsOk w f S) : RowsOk w.drew f S := h
theorem rd_rowsP {w : World} {f : α → List Value} {p : α → Prop} {s : Shape} {A : Option Addr} {n c : Nat} (hf : ∀ r, Rd w s r → ∃ g, r = f g ∧ p g) (h : Rd w (.sl s) [.slice A n c]) :
    ∃ l : List α, l.length = n ∧ n ≤ c ∧ c ≤ maxLen ∧ Sl w A (rc f l) ∧ ∀ y ∈ l, p y := by
  obtain ⟨A', n', c', rows, e, h1, h2, h3, h4, h5⟩ := h
  simp only [List.cons.injEq, Value.slice.injEq, and_true] at e
  obtain ⟨rfl, rfl, rfl⟩ := e
  have key : ∀ rows : List (List Value), (∀ r ∈ rows, Rd w s r) → ∃ l : List α, l.length = rows.length ∧ rows.flatten = rc f l ∧ ∀ y ∈ l, p y := by
    intro rows
    induction rows with
    | nil => intro _; exact ⟨[], rfl, rfl, fun y hy => by cases hy⟩
    | cons r rows ih =>
      intro h
      obtain ⟨l, a1, a2, a3⟩ := ih (fun x hx => h x (by simp [hx]))
      obtain ⟨x, rfl, hx⟩ := hf r (h r (by simp))
      refine ⟨x :: l, by simp [a1], by simp [a2, rc], fun y hy => ?_⟩
      rcases List.mem_cons.1 hy with rfl | hy
      · exact hx
      · exact a3 y hy
  obtain ⟨l, a1, a2, a3⟩ := key rows h5
  rw [a2] at h4
  exact ⟨l, by omega, h1, h2, h4, a3⟩
end
end Go.Proofs.Ytlbccpiadmcpjaa
end
section
namespace Go.Proofs.Ytlbccpiadmcpjaa
open Go.ChangeShapes Go.WideShapes Go.ChangeAt Go.RowKit
set_option linter.unusedVariables false
set_option linter.unusedSimpArgs false

theorem live27a : covR true [⟨1, 3, 1000⟩] [⟨1, 0, 10⟩] 50 = (77, 0) := by decide
theorem live27b : covR false [⟨1, 3, 1000⟩] [⟨1, 0, 10⟩] 0 = (30, 0) := by decide
theorem live27o : OkM [⟨1, 3, 1000⟩] := by intro g hg; rw [List.mem_singleton.1 hg]; decide
set_option maxHeartbeats 4000000 in
set_option maxRecDepth 100000 in
theorem lives27_any (w : World) : Calls Try.prog 17 #[] w fun e w' => e = .returned (.bool true) ∧ Below w.heap.size w w' := by
  have hB0 := since_alloc (Below.refl _ w) (.cells #[.int .i64 1, .int .i64 3, .int .i64 1000] 63)
  have r0 : Sl (w.alloc (.cells #[.int .i64 1, .int .i64 3, .int .i64 1000] 63)) (some ⟨w.heap.size, 0, none⟩) (rc Ax.cells [⟨1, 3, 1000⟩]) := Sl.new_ w (rc Ax.cells [⟨1, 3, 1000⟩]) 63
  have hp : ∀ g ∈ [(⟨1, 3, 1000⟩ : Ax)], In64 g.price := fun g hg => by rw [List.mem_singleton.1 hg]; show In64 3; unfold In64; omega
  have hq : ∀ g ∈ [(⟨1, 0, 10⟩ : Lt)], In64 g.qty := fun g hg => by rw [List.mem_singleton.1 hg]; show In64 10; unfold In64; omega
  have HV := Lib.hid (fun LA V h1 h2 => cvalue_any (some ⟨w.heap.size, 0, none⟩) 1 [⟨1, 3, 1000⟩] LA 1 [⟨1, 0, 10⟩] 50 V (by simp) (by simp) live27o hp hq (by unfold In64; omega) h1 h2)
  have HW := Lib.hid (fun LA V h1 h2 => cworth_any (some ⟨w.heap.size, 0, none⟩) 1 [⟨1, 3, 1000⟩] LA 1 [⟨1, 0, 10⟩] V (by simp) (by simp) live27o hp hq h1 h2)
  rw [live27a] at HV
  rw [live27b] at HW
  simp only [List.length_cons, List.length_nil] at HV HW
  have HS := Lib.hid r0
  clear r0 hp hq
  go_enter Try.func17, Try.ntmps17
  go_upto_region 2 with fail
  generalize hYY : w.alloc (.cells #[.int .i64 1, .int .i64 3, .int .i64 1000] 63) = Y at *
  clear hYY
  go_wp2_with fail
  refine (HV.out _ _ (HS.out.alloc _) (Sl.new_ Y (rc Lt.cells [⟨1, 0, 10⟩]) 74)).mono ?_
  rintro e w1 ⟨rfl, hb⟩
  have hb := since_step (since_alloc (Below.refl _ Y) (.cells #[.int .i64 1, .int .i64 0, .int .i64 10] 74)) hb
  have hB1 := since_step hB0 hb
  have HS := Lib.hid (HS.out.below hb)
  clear hb
  go_wp2_with fail
  refine (HW.out _ _ (HS.out.alloc _) (Sl.new_ w1 (rc Lt.cells [⟨1, 0, 10⟩]) 74)).mono ?_
  rintro e w2 ⟨rfl, hb⟩
  have hB2 := since_step (since_alloc hB1 _) hb
  go_wp2_with fail
  go_ret
  exact ⟨rfl, hB2⟩
theorem rd_axrow {w : World} {r : List Value} (h : Rd w (.cat (.int .i64) (.cat (.int .i64) (.cat (.int .i64) .nil))) r) : ∃ g : Ax, r = g.cells ∧ In64 g.id := by
  obtain ⟨p, q, rfl, ⟨a, rfl, ha⟩, ⟨p2, q2, rfl, ⟨b, rfl, _⟩, ⟨p3, q3, rfl, ⟨c, rfl, _⟩, rfl⟩⟩⟩ := h
  exact ⟨⟨a, b, c⟩, rfl, bd_i64 ha⟩
theorem rd_ltrow27 {w : World} {r : List Value} (h : Rd w (.cat (.int .i64) (.cat (.int .i64) (.cat (.int .i64) .nil))) r) : ∃ g : Lt, r = g.cells ∧ In64 g.qty := by
  obtain ⟨p, q, rfl, ⟨a, rfl, _⟩, ⟨p2, q2, rfl, ⟨b, rfl, _⟩, ⟨p3, q3, rfl, ⟨c, rfl, hc⟩, rfl⟩⟩⟩ := h
  exact ⟨⟨a, b, c⟩, rfl, bd_i64 hc⟩
set_option maxHeartbeats 8000000 in
set_option maxRecDepth 100000 in
theorem walk_CoverValues (a0 : Option Addr) (n0 c0 : Nat) (a1 : Option Addr) (n1 c1 : Nat) (a2 : Int) (w : World) (w0 : Rd w (.sl (.cat (.int .i64) (.cat (.int .i64) (.cat (.int .i64) .nil)))) [.slice a0 n0 c0]) (w1 : Rd w (.sl (.cat (.int .i64) (.cat (.int .i64) (.cat (.int .i64) .nil)))) [.slice a1 n1 c1]) (w2 : (Lit.int .i64 a2).wf = true) :
    Calls Try.prog 4 #[.slice a0 n0 c0, .slice a1 n1 c1, .int .i64 a2] w fun e w' => e = .returned (.bool true) ∧ Below w.heap.size w w' := by
  obtain ⟨l0, rfl, _, _, hs0, _⟩ := rd_rowsP (f := Ax.cells) (fun r => rd_axrow) w0
  obtain ⟨l1, rfl, hlc, hcm, hs1, hq1⟩ := rd_rowsP (f := Lt.cells) (fun r => rd_ltrow27) w1
  have hc6 := bd_i64 w2
  clear w0 w1 w2
  have HT := Lib.hid (rtableq_any a0 c0 l0 w hs0)
  have HFW := Lib.hid (fun V (h : Below w.heap.size w V) => few18_any a1 c1 l1 V hlc hcm (hs1.below h))
  have hsL : Sl w a1 (rc Lt.cells (l1.take 20)) := by rw [← rc_take Lt.len]; exact hs1.take _
  have hL20 : (l1.take 20).length ≤ 20 := by simp; omega
  have hq2 : ∀ x ∈ l1.take 20, In64 x.qty := fun x hx => hq1 x (List.mem_of_mem_take hx)
  have HLV := Lib.hid (fun V => lives27_any V)
  generalize l1.take 20 = L at *
  clear hs0 hs1 hq1 hlc hcm
  go_enter Try.func4, Try.ntmps4
  go_wp2_with fail
  refine HT.out.mono ?_
  rintro e z1 ⟨⟨R, A, c, rfl, own1, hok, hR8⟩, hB⟩
  have hsR := Sl.of_own own1
  clear own1 HT
  go_wp2_with fail
  refine (HFW.out _ hB).mono ?_
  rintro e z2 ⟨rfl, hb⟩
  have hB2 := since_step hB hb
  have hsR := hsR.below hb
  have hsL := hsL.below hB2
  clear hb hB HFW
  have hp6 : ∀ g ∈ R, In64 g.price := fun g hg => by have := (hok g hg).2.2.1; simp only at this; unfold In64; omega
  have HC1 := Lib.hid (fun V (h : Below z2.heap.size z2 V) => cvalue_any A c R a1 c1 L a2 V (by omega) (by omega) hok hp6 hq2 hc6 (hsR.below h) (hsL.below h))
  have HC2 := Lib.hid (fun V (h : Below z2.heap.size z2 V) => rcov_count A c R a1 c1 L a2 V (by omega) (by omega) hok hp6 hq2 hc6 (hsR.below h) (hsL.below h))
  have HC3 := Lib.hid (fun V (h : Below z2.heap.size z2 V) => cworth_any A c R a1 c1 L V (by omega) (by omega) hok hp6 hq2 (hsR.below h) (hsL.below h))
  have HC4 := Lib.hid (fun V (h : Below z2.heap.size z2 V) => rcov_worth A c R a1 c1 L 0 V (by omega) (by omega) hok hp6 hq2 (by unfold In64; omega) (hsR.below h) (hsL.below h))
  generalize covR true R L a2 = Q1 at *
  generalize covR false R L 0 = Q2 at *
  obtain ⟨q1, q2⟩ := Q1
  obtain ⟨q3, q4⟩ := Q2
  simp only at HC1 HC2 HC3 HC4
  have b1 : (q1 == q1) = true := by simp
  have b2 : (q2 == q2) = true := by simp
  have b3 : (q3 == q3) = true := by simp
  have b4 : (q4 == q4) = true := by simp
  have hC := Below.refl z2.heap.size z2
  clear hsR hsL hok hp6 hq2 hc6 hR8 hL20
  go_wp2_with fail
  refine (HC1.out _ hC).mono ?_
  rintro e y1 ⟨rfl, hb⟩
  have hC := since_step hC hb
  clear hb
  go_wp2_with fail
  refine (HC2.out _ hC).mono ?_
  rintro e y2 ⟨rfl, hb⟩
  have hC := since_step hC hb
  clear hb
  go_wp2_with fail
  refine (HC3.out _ hC).mono ?_
  rintro e y3 ⟨rfl, hb⟩
  have hC := since_step hC hb
  clear hb
  go_wp2_with fail
  refine (HC4.out _ hC).mono ?_
  rintro e y4 ⟨rfl, hb⟩
  have hC := since_step hC hb
  clear hb
  go_wp2_with fail
  refine (HLV.out _).mono ?_
  rintro e y5 ⟨rfl, hb⟩
  have hC := since_step hC hb
  go_wp2_with fail
  go_ret
  exact ⟨rfl, hB2.trans (hC.mono hB2.size)⟩
end Go.Proofs.Ytlbccpiadmcpjaa
end
