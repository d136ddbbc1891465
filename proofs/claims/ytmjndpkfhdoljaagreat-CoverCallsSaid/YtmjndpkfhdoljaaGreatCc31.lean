import Derived.Test.YtmjndpkfhdoljaaGreatCc30
set_option maxHeartbeats 16000000
set_option maxRecDepth 100000
set_option linter.unusedVariables false
set_option linter.unusedSimpArgs false
namespace Go.Proofs.YtmjndpkfhdoljaaGreat
open Go.ChangeShapes Go.WideShapes Go.ChangeAt Go.RowKit
section
structure Aq (w : World) (b : Nat) (g : Ac) : Prop where
  lt : b < w.heap.size
  at_ : g.at w b 0
theorem Aq.of {w : World} {b : Nat} {g : Ac} (h : Ac.Bx w b g) : Aq w b g := ⟨h.lt, h.at_⟩
theorem Aq.new (w : World) (g : Ac) : Aq (w.alloc (.cells g.cells.toArray 31)) w.heap.size g := Aq.of (Ac.Bx.new w g)
theorem Aq.below {w w' : World} {b : Nat} {g : Ac} (h : Aq w b g) (hb : Below w.heap.size w w') : Aq w' b g := ⟨Nat.lt_of_lt_of_le h.lt hb.size, Ac.at_keep h.at_ fun i => hb.cell (p := ⟨b, i, none⟩) h.lt⟩
theorem Aq.got {w : World} {b : Nat} {g : Ac} (h : Aq w b g) : w.cell? ⟨b, 0, none⟩ = some (.int .i64 g.id) ∧ w.cell? ⟨b, 1, none⟩ = some (.int .i64 g.mem) ∧ w.cell? ⟨b, 2, none⟩ = some (.int .i64 g.kind) ∧ w.cell? ⟨b, 3, none⟩ = some (.slice g.cl g.clL g.clC) := by
  have := h.at_
  unfold Ac.at at this
  simpa only [Nat.zero_add] using this
theorem BindRes.zero {B : Nat} {w' : World} {e : Ending} {id mem kind E : Int} {L : List Nt} (h : BindRes B w' e id mem kind E L) (hE : E ≠ 0) : e = .returned (.tuple #[.agg #[.int .i64 0, .int .i64 0, .int .i64 0, .slice none 0 0], .int .i64 E]) := by
  rcases h with ⟨_, h⟩ | ⟨h, _⟩
  · exact h
  · exact absurd h hE
theorem BindRes.some {B : Nat} {w' : World} {e : Ending} {id mem kind : Int} {L : List Nt} (h : BindRes B w' e id mem kind 0 L) : ∃ A' c', e = .returned (.tuple #[.agg #[.int .i64 id, .int .i64 mem, .int .i64 kind, .slice A' L.length c'], .int .i64 0]) ∧ w'.ownsRow B 3 1 (.slice A' L.length c') L.length (rc Nt.cells L) := by
  rcases h with ⟨h, _⟩ | ⟨_, h⟩
  · exact absurd rfl h
  · exact h
theorem rd_acct {w : World} {a : Array Value} (h : Rd w (.cat (.int .i64) (.cat (.int .i64) (.cat (.int .i64) (.cat (.sl (.int .i64)) .nil)))) a.toList) :
    ∃ (id mem kind : Int) (A : Option Addr) (cap : Nat) (L : List Nt), a = #[.int .i64 id, .int .i64 mem, .int .i64 kind, .slice A L.length cap] ∧ L.length ≤ cap ∧ cap ≤ maxLen ∧ Sl w A (rc Nt.cells L) := by
  obtain ⟨p, q, e, ⟨id, rfl, _⟩, ⟨p2, q2, rfl, ⟨mem, rfl, _⟩, ⟨p3, q3, rfl, ⟨kind, rfl, _⟩, ⟨p4, q4, rfl, h4, rfl⟩⟩⟩⟩ := h
  obtain ⟨A, n, c, rows, rfl, h1, h2, h3, h5, h6⟩ := _root_.id h4
  obtain ⟨l, rfl, _, _, hs⟩ := rd_ints (w := w) (k := .i64) (A := A) (n := n) (c := c) h4
  refine ⟨id, mem, kind, A, c, l.map Nt.mk, ?_, by simpa using h1, h2, ?_⟩
  · cases a
    simpa using e
  · have e2 : ∀ l : List Int, rc Nt.cells (l.map Nt.mk) = ints .i64 l := by
      intro l
      induction l with
      | nil => rfl
      | cons x l ih => rw [List.map_cons, rc_cons, ih]; rfl
    rw [e2]; exact hs.1
end
end Go.Proofs.YtmjndpkfhdoljaaGreat
