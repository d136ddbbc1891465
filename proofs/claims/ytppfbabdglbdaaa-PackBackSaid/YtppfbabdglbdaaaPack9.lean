/-
  Layer 4, ninth part: a writer since a size; lives (laid by gen_pack9.py).
-/
import Derived.Test.YtppfbabdglbdaaaPack8
import Derived.Test.YtppfbabdglbdaaaCrcWalk2
namespace Go.Proofs.Ytppfbabdglbdaaa
open Go.ChangeShapes Go.WideShapes Go.ChangeAt Go.RowKit
set_option linter.unusedVariables false
set_option linter.unusedSimpArgs false

/-- a row whose block no change reaches -/
theorem own_chg {w w' : World} {base e size n g : Nat} {v : Value} {row : Option Nat} {xs : List Value} (h : w.ownsRow base e size v n xs) (hC : Chg g row w w') (hg : v.ownBlock ≠ some g) (hr : ∀ b, v.ownBlock = some b → row ≠ some b) : w'.ownsRow base e size v n xs := by
  refine ⟨h.1, ?_⟩
  rcases h.2 with hn | ⟨g1, cap, cur, rfl, hb, hgg, rest⟩
  · exact .inl hn
  · refine .inr ⟨g1, cap, cur, rfl, hb, ?_, rest⟩
    rw [hC.block g1 (Array.getElem?_eq_some_iff.1 hgg).1 (by simpa [Value.ownBlock] using hg) (fun e => hr g1 rfl e.symm)]
    exact hgg
/-- a writer whose blocks are all new -/
structure WrS (W : Nat) (w : World) (g : Nat) (A : Option Addr) (c : Nat) (bs : List Nat) : Prop where
  wr : Wr w g A c bs
  ge : W ≤ g
  row : ∀ b, (Value.slice A bs.length c).ownBlock = some b → W ≤ b
theorem WrS.below {W : Nat} {w w' : World} {g : Nat} {A : Option Addr} {c : Nat} {bs : List Nat} (h : WrS W w g A c bs) (hb : Below w.heap.size w w') : WrS W w' g A c bs := ⟨h.wr.below hb, h.ge, h.row⟩
theorem wint_S (W g : Nat) (A : Option Addr) (c : Nat) (bs : List Nat) (A0 : Option Addr) (cap : Nat) (l : List Int) (w : World) (hS : WrS W w g A c bs) (hWs : W ≤ w.heap.size) (hl : l.length ≤ 1000) (hbl : bs.length ≤ 1000000) (h6 : ∀ x ∈ l, In64p x) (hs : Sl w A0 (ints .i64 l))
    (hf : ∀ b o, A0 = some ⟨b, o, none⟩ → l ≠ [] → b < W ∨ (b ≠ g ∧ (Value.slice A bs.length c).ownBlock ≠ some b)) :
    Calls Try.prog 7 #[.pointer (some ⟨g, 0, none⟩), .slice A0 l.length cap] w fun e w' => e = .returned (.pointer (some ⟨g, 0, none⟩)) ∧ Below W w w' ∧ ∃ A' c', WrS W w' g A' c' (bs ++ packL l) := by
  refine (wint_any g A c bs A0 cap l w hS.wr hl hbl h6 hs (fun b o hA hne => ?_)).mono ?_
  · rcases hf b o hA hne with h | h
    · exact ⟨fun e => by have := hS.ge; omega, fun e => by have := hS.row b e; omega⟩
    · exact h
  · rintro e w' ⟨rfl, A', c', hw, hC, hr⟩
    refine ⟨rfl, hC.below hWs hS.ge hS.row, A', c', hw, hS.ge, fun b hb => ?_⟩
    rcases hr with h | ⟨b2, h, hb2⟩
    · exact hS.row b (h ▸ hb)
    · rw [h] at hb
      injection hb with hb
      omega
theorem WrS.chg {W : Nat} {w w' : World} {g r : Nat} {A : Option Addr} {c : Nat} {bs : List Nat} (h : WrS W w g A c bs) (hC : Chg r none w w') (hr : r < W) : WrS W w' g A c bs := by
  have hg := h.ge
  refine ⟨⟨by rw [hC.block g h.wr.lt (by omega) (by simp)]; exact h.wr.blk, own_chg h.wr.own hC (fun e => by have := h.row r e; omega) (fun b _ e => by cases e)⟩, hg, h.row⟩
theorem wtext_S (W g : Nat) (A : Option Addr) (c : Nat) (bs : List Nat) (s : ByteArray) (w : World) (hS : WrS W w g A c bs) (hWs : W ≤ w.heap.size) (hbl : bs.length ≤ 1000000) (hsl : s.size ≤ 1000000) :
    Calls Try.prog 10 #[.pointer (some ⟨g, 0, none⟩), .string s] w fun e w' => e = .returned (.pointer (some ⟨g, 0, none⟩)) ∧ Below W w w' ∧ ∃ A' c', WrS W w' g A' c' (bs ++ packT (sb s)) := by
  refine (wtext_any g A c bs s w hS.wr hbl hsl).mono ?_
  rintro e w' ⟨rfl, A', c', hw, hC, hr⟩
  refine ⟨rfl, hC.below hWs hS.ge hS.row, A', c', hw, hS.ge, fun b hb => ?_⟩
  rcases hr with h | ⟨b2, h, hb2⟩
  · exact hS.row b (h ▸ hb)
  · rw [h] at hb
    injection hb with hb
    omega
theorem wnew_S (w : World) : Calls Try.prog 6 #[] w fun e w' => ∃ g, e = .returned (.pointer (some ⟨g, 0, none⟩)) ∧ WrS w.heap.size w' g none 0 [] ∧ Below w.heap.size w w' := by
  refine (wnew_any w).mono ?_
  rintro e w' ⟨rfl, hw, rfl⟩
  exact ⟨_, rfl, ⟨hw, Nat.le_refl _, fun b hb => by simp [Value.ownBlock] at hb⟩, since_alloc (Below.refl _ _) _⟩
theorem rint_S (W g : Nat) (A : Option Addr) (c : Nat) (B : List Nat) (er lo hi : Int) (w : World) (hR : Rdr w g A c B er) (hg : W ≤ g) (hWs : W ≤ w.heap.size) {n : Int} {s' : Rs} (hn : rdI lo hi ⟨B, er⟩ = (n, s')) :
    Calls Try.prog 18 #[.pointer (some ⟨g, 0, none⟩), .int .i64 lo, .int .i64 hi] w fun e w' => e = .returned (.int .i64 n) ∧ Below W w w' ∧ ∃ A' c', Rdr w' g A' c' s'.B s'.err := by
  refine (rint4_any g A c B er lo hi w hR).mono ?_
  rw [hn]
  rintro e w' ⟨rfl, hC, A', c', h⟩
  exact ⟨rfl, hC.below hWs hg (fun b hb => by cases hb), A', c', h⟩
theorem rtext_S (W g : Nat) (A : Option Addr) (c : Nat) (B : List Nat) (er most : Int) (w : World) (hR : Rdr w g A c B er) (hg : W ≤ g) (hWs : W ≤ w.heap.size) {t : ByteArray} {n : List Nat} {s' : Rs} (hn : rdT most ⟨B, er⟩ = (n, s')) (ht : bs8 n = t) :
    Calls Try.prog 19 #[.pointer (some ⟨g, 0, none⟩), .int .i64 most] w fun e w' => e = .returned (.string t) ∧ Below W w w' ∧ ∃ A' c', Rdr w' g A' c' s'.B s'.err := by
  refine (rtext4_any g A c B er most w hR).mono ?_
  rw [hn]
  rintro e w' ⟨rfl, hC, A', c', h⟩
  exact ⟨by rw [ht], hC.below hWs hg (fun b hb => by cases hb), A', c', h⟩
theorem vb64 : vb 128 = [128, 1] := by rw [vb_high (by decide), vb_low (by decide)]
theorem lives_b1 : [] ++ packL [64, -1] = [128, 1, 1] := by
  rw [packL_cons, packL_cons]
  have a : packI 64 = [128, 1] := vb64
  have b : packI (-1) = [1] := vb_low (by decide)
  rw [a, b]; rfl
theorem lives_b2 : [128, 1, 1] ++ packT (sb ⟨#[97, 98]⟩) = [128, 1, 1, 4, 97, 98] := by
  have a : sb ⟨#[97, 98]⟩ = [97, 98] := by decide
  rw [a, packT]
  have b : packI (([97, 98] : List Nat).length : Int) = [4] := vb_low (by decide)
  rw [b]; rfl

theorem lives_r1 : rdI 0 64 ⟨[128, 1, 1, 4, 97, 98], 0⟩ = (64, ⟨[1, 4, 97, 98], 0⟩) := by
  have h := rdI_pack (n := 64) (lo := 0) (hi := 64) (by unfold In64p; omega) (by omega) (by omega) [1, 4, 97, 98]
  have a : packI 64 = [128, 1] := vb64
  rw [a] at h
  exact h
theorem lives_r2 : rdI (-1) 0 ⟨[1, 4, 97, 98], 0⟩ = (-1, ⟨[4, 97, 98], 0⟩) := by
  have h := rdI_pack (n := -1) (lo := -1) (hi := 0) (by unfold In64p; omega) (by omega) (by omega) [4, 97, 98]
  have a : packI (-1) = [1] := vb_low (by decide)
  rw [a] at h
  exact h
theorem lives_r3 : rdT 2 ⟨[4, 97, 98], 0⟩ = ([97, 98], ⟨[], 0⟩) := by
  have h := rdT_pack (s := [97, 98]) (r := []) (most := 2) (by decide) (by decide)
  have a : packT [97, 98] = [4, 97, 98] := by
    rw [packT]
    have b : packI (([97, 98] : List Nat).length : Int) = [4] := vb_low (by decide)
    rw [b]; rfl
  rw [a] at h
  exact h
set_option maxHeartbeats 1000000 in
set_option maxRecDepth 100000 in
theorem lives4_any (w : World) : Calls Try.prog 15 #[] w fun e w' => e = .returned (.bool true) ∧ Below w.heap.size w w' := by
  have HN := Lib.hid (wnew_S w)
  obtain ⟨W, hWe⟩ : ∃ W, w.heap.size = W := ⟨_, rfl⟩
  rw [hWe] at HN ⊢
  have hW0 : W ≤ w.heap.size := by omega
  go_enter Try.func15, Try.ntmps15
  go_wp2_with fail
  refine HN.out.mono ?_
  rintro e w1 ⟨g, rfl, hS1, hB1⟩
  have hz1 := hB1.size
  have hb2 := (Below.refl _ w1).alloc (Nat.le_refl _) (.cells #[.int .i64 64, .int .i64 (-1)] 2)
  have hI := (wint_S W g none 0 [] (some ⟨w1.heap.size, 0, none⟩) 2 [64, -1] (w1.alloc (.cells #[.int .i64 64, .int .i64 (-1)] 2)) (hS1.below hb2) (by rw [World.size_alloc]; omega) (by decide) (by decide) (by intro x hx; simp only [List.mem_cons, List.not_mem_nil, or_false] at hx; unfold In64p; omega) (Sl.new_ w1 (ints .i64 [64, -1]) 2)
    (fun b o hA _ => .inr (by
      injection hA with hA
      injection hA with hA _
      subst hA
      exact ⟨by have := hS1.wr.lt; omega, by simp [Value.ownBlock]⟩)))
  rw [lives_b1] at hI
  simp only [List.length_cons, List.length_nil] at hI
  have HI := Lib.hid hI
  clear hI
  have hB2 := hB1.trans (hb2.mono (show W ≤ w1.heap.size by omega))
  clear HN hB1
  go_wp2_with fail
  refine HI.out.mono ?_
  rintro e w2 ⟨rfl, hb, A2, c2, hS2⟩
  have hB3 := hB2.trans hb
  have hz2 := hB3.size
  have hT := (wtext_S W g A2 c2 _ ⟨#[97, 98]⟩ w2 hS2 (by omega) (by decide) (by decide))
  rw [lives_b2] at hT
  have HT := Lib.hid hT
  clear hT
  clear HI hB2 hb hS1 hb2
  go_wp2_with fail
  refine HT.out.mono ?_
  rintro e w3 ⟨rfl, hb, A3, c3, hS3⟩
  have hB4 := hB3.trans hb
  have hz3 := hB4.size
  have HD := Lib.hid (wdone_any g A3 c3 _ w3 hS3.wr (by decide))
  clear HT hB3 hb hS2
  go_wp2_with fail
  refine HD.out.mono ?_
  rintro e w4 ⟨⟨A4, c4, rfl, own4⟩, hb⟩
  have hB5 := hB4.trans (hb.mono (show W ≤ w3.heap.size by omega))
  have hz4 := hB5.size
  have s4 := Sl.of_own own4
  have HO := Lib.hid (ropen_any A4 c4 [128, 1, 1, 4, 97, 98] w4 (by decide) (by unfold Oct; decide) s4)
  clear HD hB4 hb hS3 own4
  go_wp2_with fail
  refine HO.out.mono ?_
  rintro e w5 ⟨r, rfl, hr, hb, A5, c5, hR⟩
  have s5 := s4.below hb
  have hB6 := hB5.trans (hb.mono (show W ≤ w4.heap.size by omega))
  have hz5 := hB6.size
  clear HO hB5 hb s4
  have hb6 := (Below.refl _ w5).alloc (Nat.le_refl _) (.cells #[.int .u8 128, .int .u8 1, .int .u8 1, .int .u8 4, .int .u8 97, .int .u8 98] 5)
  have HQ := Lib.hid (same_any A4 (some ⟨w5.heap.size, 0, none⟩) c4 6 [128, 1, 1, 4, 97, 98] [128, 1, 1, 4, 97, 98] (w5.alloc (.cells #[.int .u8 128, .int .u8 1, .int .u8 1, .int .u8 4, .int .u8 97, .int .u8 98] 5)) (by decide) (by decide) (s5.below hb6) (Sl.new_ w5 (by8 [128, 1, 1, 4, 97, 98]) 5))
  simp only [decide_true, List.length_cons, List.length_nil] at HQ
  have hR6 := hR.below hb6
  have hB7 := hB6.trans (hb6.mono (show W ≤ w5.heap.size by omega))
  clear hB6 hR hb6
  go_wp2_with fail
  refine HQ.out.mono ?_
  rintro e w6 ⟨rfl, n6, hw6⟩
  have hb := below_drewN (Below.refl (w5.alloc (.cells #[.int .u8 128, .int .u8 1, .int .u8 1, .int .u8 4, .int .u8 97, .int .u8 98] 5)).heap.size (w5.alloc (.cells #[.int .u8 128, .int .u8 1, .int .u8 1, .int .u8 4, .int .u8 97, .int .u8 98] 5))) n6
  rw [← hw6] at hb
  have hz7 := hB7.size
  have hR7 := hR6.below hb
  have hB8 := hB7.trans (hb.mono (by omega))
  have hz8 := hB8.size
  have hWr : W ≤ r := by omega
  have H1 := Lib.hid (rint_S W r A5 c5 _ 0 0 64 w6 hR7 hWr (by omega) lives_r1)
  clear HQ hw6 hb hR6 hB7 hz7 s5
  go_wp2_with fail
  refine H1.out.mono ?_
  rintro e w7 ⟨rfl, hb, A6, c6, hR8⟩
  have hB9 := hB8.trans hb
  have hz9 := hB9.size
  have H2 := Lib.hid (rint_S W r A6 c6 _ 0 (-1) 0 w7 hR8 hWr (by omega) lives_r2)
  clear H1 hb hR7 hB8 hz8
  go_wp2_with fail
  refine H2.out.mono ?_
  rintro e w8 ⟨rfl, hb, A7, c7, hR9⟩
  have hB10 := hB9.trans hb
  have hz10 := hB10.size
  have H3 := Lib.hid (rtext_S W r A7 c7 _ 0 2 w8 hR9 hWr (by omega) lives_r3 (t := ⟨#[97, 98]⟩) (by decide))
  clear H2 hb hR8 hB9 hz9
  go_wp2_with fail
  refine H3.out.mono ?_
  rintro e w9 ⟨rfl, hb, A8, c8, hR10⟩
  have hB11 := hB10.trans hb
  have hz11 := hB11.size
  have H4 := Lib.hid (rend_any r A8 c8 _ 0 w9 hR10)
  rw [show endF ⟨[], 0⟩ = 0 by decide] at H4
  clear H3 hb hR9 hB10 hz10
  go_wp2_with fail
  refine H4.out.mono ?_
  rintro e w10 ⟨rfl, hb⟩
  have hB12 := hB11.trans (hb.mono (by omega))
  go_wp2_with fail
  go_ret
  exact ⟨rfl, hB12⟩
end Go.Proofs.Ytppfbabdglbdaaa
