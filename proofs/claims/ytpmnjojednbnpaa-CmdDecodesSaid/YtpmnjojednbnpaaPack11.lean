/-
  Layer 4, eleventh part: PackWrites (laid by gen_pack11.py).
-/
import Derived.Test.YtpmnjojednbnpaaPack10
import Derived.Test.YtpmnjojednbnpaaApp3
import Derived.Deep.AppendSrc
import Derived.Deep.Upon
namespace Go.Proofs.Ytpmnjojednbnpaa
open Go.ChangeShapes Go.WideShapes Go.ChangeAt Go.RowKit
set_option linter.unusedVariables false
set_option linter.unusedSimpArgs false

/-- a writer, and a row beside it -/
structure Pair (W : Nat) (w : World) (g : Nat) (A : Option Addr) (c : Nat) (bs : List Nat) (A2 : Option Addr) (c2 : Nat) (ws : List Nat) : Prop where
  s : WrS W w g A c bs
  own : w.ownsRow W 5 1 (.slice A2 ws.length c2) ws.length (by8 ws)
  ne : (Value.slice A2 ws.length c2).ownBlock ≠ some g
  ap : Apart (.slice A bs.length c) (.slice A2 ws.length c2)
theorem Pair.below {W : Nat} {w w' : World} {g : Nat} {A : Option Addr} {c : Nat} {bs : List Nat} {A2 : Option Addr} {c2 : Nat} {ws : List Nat} (h : Pair W w g A c bs A2 c2 ws) (hb : Below w.heap.size w w') : Pair W w' g A c bs A2 c2 ws :=
  ⟨h.s.below hb, own_below h.own hb, h.ne, h.ap⟩
theorem Pair.write {W : Nat} {w w' : World} {g : Nat} {A A' : Option Addr} {c c' : Nat} {bs bs' : List Nat} {A2 : Option Addr} {c2 : Nat} {ws : List Nat} (h : Pair W w g A c bs A2 c2 ws) (hWs : W ≤ w.heap.size) (hw : Wr w' g A' c' bs') (hC : Chg g (Value.slice A bs.length c).ownBlock w w')
    (hr : (Value.slice A' bs'.length c').ownBlock = (Value.slice A bs.length c).ownBlock ∨ ∃ b, (Value.slice A' bs'.length c').ownBlock = some b ∧ w.heap.size ≤ b) : Pair W w' g A' c' bs' A2 c2 ws ∧ Below W w w' := by
  refine ⟨⟨⟨hw, h.s.ge, fun b hb => ?_⟩, own_chg h.own hC h.ne (fun b hb e => h.ap b e hb), h.ne, fun b hb e => ?_⟩, hC.below hWs h.s.ge h.s.row⟩
  · rcases hr with h1 | ⟨b2, h1, h2⟩
    · exact h.s.row b (h1 ▸ hb)
    · rw [h1] at hb; injection hb with hb; omega
  · rcases hr with h1 | ⟨b2, h1, h2⟩
    · exact h.ap b (h1 ▸ hb) e
    · rw [h1] at hb
      injection hb with hb
      subst hb
      exact own_newB h.own h2 e
theorem Pair.want {W : Nat} {w w' : World} {g : Nat} {A : Option Addr} {c : Nat} {bs : List Nat} {A2 A3 : Option Addr} {c2 c3 : Nat} {ws ws' : List Nat} (h : Pair W w g A c bs A2 c2 ws) (hg : w.grownBy w' (Value.slice A2 ws.length c2).ownBlock)
    (ho : w'.ownsRow W 5 1 (.slice A3 ws'.length c3) ws'.length (by8 ws')) (hv : (Value.slice A3 ws'.length c3).ownBlock = (Value.slice A2 ws.length c2).ownBlock ∨ (Value.slice A3 ws'.length c3).ownBlock = some w.heap.size) : Pair W w' g A c bs A3 c3 ws' := by
  have hlt := h.s.wr.lt
  refine ⟨⟨⟨by rw [hg.block g hlt (fun e => h.ne e.symm)]; exact h.s.wr.blk, own_apart h.s.wr.own h.ap.symm hg⟩, h.s.ge, h.s.row⟩, ho, fun e => ?_, (Apart.grow h.ap.symm h.s.wr.own hv).symm⟩
  rcases hv with h1 | h1
  · exact h.ne (h1 ▸ e)
  · rw [h1] at e; injection e with e; omega
structure Dw where
  kind : Int
  A : Option Addr
  c : Nat
  l : List Int
  s : ByteArray
  lo : Int
  hi : Int
  most : Int
def Dw.cells (d : Dw) : List Value := [.int .i64 d.kind, .slice d.A d.l.length d.c, .string d.s, .int .i64 d.lo, .int .i64 d.hi, .int .i64 d.most]
theorem Dw.len (d : Dw) : d.cells.length = 6 := rfl
structure Dw.Ok (w : World) (d : Dw) : Prop where
  lc : d.l.length ≤ d.c
  cm : d.c ≤ maxLen
  sl : Sl w d.A (ints .i64 d.l)
  l6 : ∀ x ∈ d.l, In64p x
  sm : d.s.size ≤ maxLen
theorem rd_dw {w : World} {r : List Value} (h : Go.Proofs.Ytpmnjojednbnpaa.Rd w (.cat (.int .i64) (.cat (.sl (.int .i64)) (.cat .str (.cat (.int .i64) (.cat (.int .i64) (.cat (.int .i64) .nil)))))) r) : ∃ d : Dw, r = d.cells ∧ d.Ok w := by
  obtain ⟨p, q, rfl, ⟨a, rfl, _⟩, ⟨p2, q2, rfl, hsl, ⟨p3, q3, rfl, ⟨s, rfl, hs⟩, ⟨p4, q4, rfl, ⟨b, rfl, _⟩, ⟨p5, q5, rfl, ⟨e, rfl, _⟩, ⟨p6, q6, rfl, ⟨f, rfl, _⟩, rfl⟩⟩⟩⟩⟩⟩ := h
  obtain ⟨A', n', c', e2⟩ : ∃ A' n' c', p2 = [.slice A' n' c'] := by
    obtain ⟨A', n', c', rows, e2, _⟩ := hsl
    exact ⟨A', n', c', e2⟩
  subst e2
  obtain ⟨l, h1, h2, h3, h4, h5⟩ := rd_rowsP (f := fun n : Int => [Value.int .i64 n]) (fun r => rd_int) hsl
  subst h1
  rw [rc_int] at h4
  exact ⟨⟨a, A', c', l, s, b, e, f⟩, rfl, h2, h3, h4, h5, hs⟩
end Go.Proofs.Ytpmnjojednbnpaa
