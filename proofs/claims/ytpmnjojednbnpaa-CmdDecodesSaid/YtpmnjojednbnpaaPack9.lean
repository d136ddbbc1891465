/-
  Layer 4, ninth part: a writer since a size; lives (laid by gen_pack9.py).
-/
import Derived.Test.YtpmnjojednbnpaaPack8
import Derived.Test.YtpmnjojednbnpaaCrcWalk2
namespace Go.Proofs.Ytpmnjojednbnpaa
open Go.ChangeShapes Go.WideShapes Go.ChangeAt Go.RowKit
set_option linter.unusedVariables false
set_option linter.unusedSimpArgs false

/-- a row whose block no change reaches -/
theorem own_chg {w w' : World} {base e size n g : Nat} {v : Value} {row : Option Nat} {xs : List Value} (h : w.ownsRow base e size v n xs) (hC : Chg g row w w') (hg : v.ownBlock ≠ some g) (hr : ∀ b, v.ownBlock = some b → row ≠ some b) : w'.ownsRow base e size v n xs := by
  refine ⟨h.1, ?_⟩
  rcases h.2 with hn | ⟨g1, cap, cur, rfl, hb, hgg, rest⟩
  · exact .inl hn
  · refine .inr ⟨g1, cap, cur, rfl, hb, ?_, rest⟩
    rw [hC.block g1 (Array.getElem?_eq_some_iff.1 hgg).1 (by simpa [Value.ownBlock] using hg) (fun e => hr g1 rfl e.symm)]
    exact hgg
/-- a writer whose blocks are all new -/
structure WrS (W : Nat) (w : World) (g : Nat) (A : Option Addr) (c : Nat) (bs : List Nat) : Prop where
  wr : Wr w g A c bs
  ge : W ≤ g
  row : ∀ b, (Value.slice A bs.length c).ownBlock = some b → W ≤ b
theorem WrS.below {W : Nat} {w w' : World} {g : Nat} {A : Option Addr} {c : Nat} {bs : List Nat} (h : WrS W w g A c bs) (hb : Below w.heap.size w w') : WrS W w' g A c bs := ⟨h.wr.below hb, h.ge, h.row⟩
theorem wint_S (W g : Nat) (A : Option Addr) (c : Nat) (bs : List Nat) (A0 : Option Addr) (cap : Nat) (l : List Int) (w : World) (hS : WrS W w g A c bs) (hWs : W ≤ w.heap.size) (hl : l.length ≤ 1000) (hbl : bs.length ≤ 1000000) (h6 : ∀ x ∈ l, In64p x) (hs : Sl w A0 (ints .i64 l))
    (hf : ∀ b o, A0 = some ⟨b, o, none⟩ → l ≠ [] → b < W ∨ (b ≠ g ∧ (Value.slice A bs.length c).ownBlock ≠ some b)) :
    Calls Try.prog 28 #[.pointer (some ⟨g, 0, none⟩), .slice A0 l.length cap] w fun e w' => e = .returned (.pointer (some ⟨g, 0, none⟩)) ∧ Below W w w' ∧ ∃ A' c', WrS W w' g A' c' (bs ++ packL l) := by
  refine (wint_any g A c bs A0 cap l w hS.wr hl hbl h6 hs (fun b o hA hne => ?_)).mono ?_
  · rcases hf b o hA hne with h | h
    · exact ⟨fun e => by have := hS.ge; omega, fun e => by have := hS.row b e; omega⟩
    · exact h
  · rintro e w' ⟨rfl, A', c', hw, hC, hr⟩
    refine ⟨rfl, hC.below hWs hS.ge hS.row, A', c', hw, hS.ge, fun b hb => ?_⟩
    rcases hr with h | ⟨b2, h, hb2⟩
    · exact hS.row b (h ▸ hb)
    · rw [h] at hb
      injection hb with hb
      omega
theorem WrS.chg {W : Nat} {w w' : World} {g r : Nat} {A : Option Addr} {c : Nat} {bs : List Nat} (h : WrS W w g A c bs) (hC : Chg r none w w') (hr : r < W) : WrS W w' g A c bs := by
  have hg := h.ge
  refine ⟨⟨by rw [hC.block g h.wr.lt (by omega) (by simp)]; exact h.wr.blk, own_chg h.wr.own hC (fun e => by have := h.row r e; omega) (fun b _ e => by cases e)⟩, hg, h.row⟩
theorem wnew_S (w : World) : Calls Try.prog 66 #[] w fun e w' => ∃ g, e = .returned (.pointer (some ⟨g, 0, none⟩)) ∧ WrS w.heap.size w' g none 0 [] ∧ Below w.heap.size w w' := by
  refine (wnew_any w).mono ?_
  rintro e w' ⟨rfl, hw, rfl⟩
  exact ⟨_, rfl, ⟨hw, Nat.le_refl _, fun b hb => by simp [Value.ownBlock] at hb⟩, since_alloc (Below.refl _ _) _⟩
theorem rint_S (W g : Nat) (A : Option Addr) (c : Nat) (B : List Nat) (er lo hi : Int) (w : World) (hR : Rdr w g A c B er) (hg : W ≤ g) (hWs : W ≤ w.heap.size) {n : Int} {s' : Rs} (hn : rdI lo hi ⟨B, er⟩ = (n, s')) :
    Calls Try.prog 71 #[.pointer (some ⟨g, 0, none⟩), .int .i64 lo, .int .i64 hi] w fun e w' => e = .returned (.int .i64 n) ∧ Below W w w' ∧ ∃ A' c', Rdr w' g A' c' s'.B s'.err := by
  refine (rint4_any g A c B er lo hi w hR).mono ?_
  rw [hn]
  rintro e w' ⟨rfl, hC, A', c', h⟩
  exact ⟨rfl, hC.below hWs hg (fun b hb => by cases hb), A', c', h⟩
theorem vb64 : vb 128 = [128, 1] := by rw [vb_high (by decide), vb_low (by decide)]
theorem lives_b1 : [] ++ packL [64, -1] = [128, 1, 1] := by
  rw [packL_cons, packL_cons]
  have a : packI 64 = [128, 1] := vb64
  have b : packI (-1) = [1] := vb_low (by decide)
  rw [a, b]; rfl
theorem lives_b2 : [128, 1, 1] ++ packT (sb ⟨#[97, 98]⟩) = [128, 1, 1, 4, 97, 98] := by
  have a : sb ⟨#[97, 98]⟩ = [97, 98] := by decide
  rw [a, packT]
  have b : packI (([97, 98] : List Nat).length : Int) = [4] := vb_low (by decide)
  rw [b]; rfl

theorem lives_r1 : rdI 0 64 ⟨[128, 1, 1, 4, 97, 98], 0⟩ = (64, ⟨[1, 4, 97, 98], 0⟩) := by
  have h := rdI_pack (n := 64) (lo := 0) (hi := 64) (by unfold In64p; omega) (by omega) (by omega) [1, 4, 97, 98]
  have a : packI 64 = [128, 1] := vb64
  rw [a] at h
  exact h
theorem lives_r2 : rdI (-1) 0 ⟨[1, 4, 97, 98], 0⟩ = (-1, ⟨[4, 97, 98], 0⟩) := by
  have h := rdI_pack (n := -1) (lo := -1) (hi := 0) (by unfold In64p; omega) (by omega) (by omega) [4, 97, 98]
  have a : packI (-1) = [1] := vb_low (by decide)
  rw [a] at h
  exact h
theorem lives_r3 : rdT 2 ⟨[4, 97, 98], 0⟩ = ([97, 98], ⟨[], 0⟩) := by
  have h := rdT_pack (s := [97, 98]) (r := []) (most := 2) (by decide) (by decide)
  have a : packT [97, 98] = [4, 97, 98] := by
    rw [packT]
    have b : packI (([97, 98] : List Nat).length : Int) = [4] := vb_low (by decide)
    rw [b]; rfl
  rw [a] at h
  exact h
end Go.Proofs.Ytpmnjojednbnpaa
