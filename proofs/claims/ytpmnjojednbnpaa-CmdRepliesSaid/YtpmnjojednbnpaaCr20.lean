import Derived.Test.YtpmnjojednbnpaaCr01
import Derived.Test.YtpmnjojednbnpaaCr17
import Derived.Test.YtpmnjojednbnpaaCr06
import Derived.Test.YtpmnjojednbnpaaCr07
import Derived.Test.YtpmnjojednbnpaaCr11
section
namespace Go.Proofs.Ytpmnjojednbnpaa
open Go.ChangeShapes Go.WideShapes Go.ChangeAt Go.RowKit
set_option linter.unusedVariables false
set_option linter.unusedSimpArgs false

structure Rq (w : World) (g : Nat) (A : Option Addr) (c : Nat) (B : List Nat) (er : Int) : Prop where
  blk : w.heap[g]? = some (.cells #[.slice A B.length c, .int .i64 er] 89 (0, 0))
  sl : Sl w A (by8 B)
  cap : B.length ≤ c
  cm : c ≤ maxLen
  far : B ≠ [] → ∀ b o, A = some ⟨b, o, none⟩ → b < g
  oct : Oct B
section
variable {w w' : World} {g : Nat} {A A' : Option Addr} {c c' : Nat} {B B' : List Nat} {er : Int}
theorem Rq.lt (h : Rq w g A c B er) : g < w.heap.size := (Array.getElem?_eq_some_iff.1 h.blk).1
theorem Rq.got (h : Rq w g A c B er) : w.cell? ⟨g, 0, none⟩ = some (.slice A B.length c) ∧ w.cell? ⟨g, 1, none⟩ = some (.int .i64 er) ∧ (∀ i, w.frozen? ⟨g, i, none⟩ = false) :=
  ⟨by rw [cell_of_row w g 0 _ _ (0, 0) h.blk]; rfl, by rw [cell_of_row w g 1 _ _ (0, 0) h.blk]; rfl, fun i => by simp [World.frozen?, h.blk]⟩
theorem Rq.below (h : Rq w g A c B er) (hb : Below w.heap.size w w') : Rq w' g A c B er := ⟨by rw [hb.block g h.lt]; exact h.blk, h.sl.below hb, h.cap, h.cm, h.far, h.oct⟩
theorem Rq.put (h : Rq w g A c B er) (hs : Sl w A' (by8 B')) (hc : B'.length ≤ c') (hm : c' ≤ maxLen) (hf : B' ≠ [] → ∀ b o, A' = some ⟨b, o, none⟩ → b < g) (ho : Oct B') : Rq (w.setCell ⟨g, 0, none⟩ (.slice A' B'.length c')) g A' c' B' er := by
  have hs' : Sl (w.setCell ⟨g, 0, none⟩ (.slice A' B'.length c')) A' (by8 B') := by
    by_cases hB : B' = []
    · rw [hB]; exact Sl.nil
    · exact hs.far (fun b o hA => by have := hf hB b o hA; show b ≠ g; omega) _
  refine ⟨?_, hs', hc, hm, hf, ho⟩
  rw [setCell_eq_setRow w g 0 _ 89 (0, 0) _ h.blk]
  have := setRow_heap w g _ ((#[.slice A B.length c, .int .i64 er] : Array Value).set! 0 (.slice A' B'.length c')) 89 (0, 0) h.blk
  simpa using this
theorem Rq.fail (h : Rq w g A c B er) (e : Int) : Rq ((w.setCell ⟨g, 1, none⟩ (.int .i64 e)).setCell ⟨g, 0, none⟩ (.slice none 0 0)) g none 0 [] e := by
  refine ⟨?_, Sl.nil, Nat.le_refl _, by decide, (fun h => absurd rfl h), (fun x hx => by cases hx)⟩
  have h1 : (w.setCell ⟨g, 1, none⟩ (.int .i64 e)).heap[g]? = some (.cells #[.slice A B.length c, .int .i64 e] 89 (0, 0)) := by
    rw [setCell_eq_setRow w g 1 _ 89 (0, 0) _ h.blk]
    have := setRow_heap w g _ ((#[.slice A B.length c, .int .i64 er] : Array Value).set! 1 (.int .i64 e)) 89 (0, 0) h.blk
    simpa using this
  rw [setCell_eq_setRow _ g 0 _ 89 (0, 0) _ h1]
  have := setRow_heap _ g _ ((#[.slice A B.length c, .int .i64 e] : Array Value).set! 0 (.slice none 0 0)) 89 (0, 0) h1
  simpa using this
theorem Rq.belowW {W : Nat} (h : Rq w g A c B er) (hb : Below W w w') (hg : g < W) : Rq w' g A c B er := by
  refine ⟨by rw [hb.block g hg]; exact h.blk, ?_, h.cap, h.cm, h.far, h.oct⟩
  by_cases hB : B = []
  · rw [hB]; exact Sl.nil
  · intro hne
    obtain ⟨b, o, hA, hc⟩ := h.sl hne
    have hlt := h.far hB b o hA
    exact ⟨b, o, hA, fun j u hu => (hb.cell (p := ⟨b, o + j, none⟩) (Nat.lt_trans hlt hg)).trans (hc j u hu)⟩
end
end Go.Proofs.Ytpmnjojednbnpaa
end
section
namespace Go.Proofs.Ytpmnjojednbnpaa
open Go.ChangeShapes Go.WideShapes Go.ChangeAt Go.RowKit
set_option linter.unusedVariables false
set_option linter.unusedSimpArgs false

theorem Chg.any {g g2 : Nat} {row : Option Nat} {w w' : World} (h : Chg g row w w') (hg : w.heap.size ≤ g) : Chg g2 row w w' :=
  ⟨h.os, h.tape, h.output, h.size, fun k hk _ hr => h.block k hk (by omega) hr⟩
structure Rt (W : Nat) (RW : Option Nat) (A : Option Addr) (c : Nat) (bs : List Nat) (w w' : World) : Prop where
  own : w'.ownsRow W 5 1 (.slice A (bs).length c) (bs).length (by8 (bs))
  chg : Chg w.heap.size RW w w'
  row : ob A bs c = RW ∨ ∃ r, ob A bs c = some r ∧ w.heap.size ≤ r
section
variable {W g : Nat} {RW : Option Nat} {A A2 : Option Addr} {c c2 : Nat} {bs bs2 : List Nat} {w w' w2 : World}
theorem Rt.refl (h : w.ownsRow W 5 1 (.slice A (bs).length c) (bs).length (by8 (bs))) : Rt W (ob A bs c) A c bs w w := ⟨h, Chg.refl _ _ _, .inl rfl⟩
theorem Rt.trans (h : Rt W RW A c bs w w') (k : Rt W (ob A bs c) A2 c2 bs2 w' w2) : Rt W RW A2 c2 bs2 w w2 :=
  ⟨k.own, h.chg.trans (k.chg.any (Nat.le_refl _)) h.row, by
    rcases k.row with e | ⟨r, e, hr⟩
    · rcases h.row with e1 | ⟨r, e1, hr⟩
      · exact .inl (e.trans e1)
      · exact .inr ⟨r, e.trans e1, hr⟩
    · exact .inr ⟨r, e, Nat.le_trans h.chg.size hr⟩⟩
theorem Rt.below (h : Rt W RW A c bs w w') (hb : Below w'.heap.size w' w2) : Rt W RW A c bs w w2 :=
  ⟨own_below h.own hb, h.chg.trans (Chg.of_below hb) h.row, h.row⟩
theorem Rt.of_app (h : w.ownsRow W 5 1 (.slice A (bs).length c) (bs).length (by8 (bs))) (hg : w.grownBy w' (Value.slice A bs.length c).ownBlock) (h2 : w'.ownsRow W 5 1 (.slice A2 (bs2).length c2) (bs2).length (by8 (bs2))) (hv : (Value.slice A2 bs2.length c2).ownBlock = (Value.slice A bs.length c).ownBlock ∨ (Value.slice A2 bs2.length c2).ownBlock = some w.heap.size) : Rt W (ob A bs c) A2 c2 bs2 w w' :=
  ⟨h2, Chg.of_grown hg, hv.imp id fun e => ⟨_, e, Nat.le_refl _⟩⟩
theorem own_keep34 (h : w.ownsRow W 5 1 (.slice A (bs).length c) (bs).length (by8 (bs))) (hC : Chg w.heap.size (ob A bs c) w w') {k : Nat} {o : Obj} (hk : w.heap[k]? = some o) (hne : ∀ cs t f, o = .cells cs t f → t ≠ 5) : w'.heap[k]? = some o := by
  have hlt := (Array.getElem?_eq_some_iff.1 hk).1
  rw [hC.block k hlt (by omega)]
  · exact hk
  · intro e
    rcases h.2 with hn | ⟨g1, cap, cur, hv, hb, hg1, _⟩
    · unfold ob at e
      rw [hn.1] at e
      simp [Value.ownBlock] at e
    · unfold ob at e
      rw [hv] at e
      simp only [Value.ownBlock] at e
      injection e with e
      subst e
      rw [hg1] at hk
      injection hk with hk
      exact hne _ _ _ hk.symm rfl
theorem own_old34 (h : w.ownsRow W 5 1 (.slice A (bs).length c) (bs).length (by8 (bs))) (hW : W ≤ w.heap.size) (hC : Chg w.heap.size (ob A bs c) w w') : Below W w w' :=
  hC.below hW hW fun b e => (h.lt b e).1
end
set_option maxHeartbeats 16000000 in
set_option maxRecDepth 100000 in
theorem rnumsW (W : Nat) (A : Option Addr) (c : Nat) (bs : List Nat) (A0 : Option Addr) (cap : Nat) (l : List Int) (w : World) (own : w.ownsRow W 5 1 (.slice A (bs).length c) (bs).length (by8 (bs))) (hW : W ≤ w.heap.size) (hl : l.length ≤ 100) (hbl : bs.length + 10 * l.length ≤ 1000000) (h6 : ∀ x ∈ l, In64p x) (hs : Sl w A0 (ints .i64 l))
    (hf : ∀ b o, A0 = some ⟨b, o, none⟩ → l ≠ [] → ob A bs c ≠ some b) :
    Calls Try.prog 32 #[.slice A bs.length c, .slice A0 l.length cap] w fun e w' => ∃ A' c', e = .returned (.slice A' (bs ++ packL l).length c') ∧ Rt W (ob A bs c) A' c' (bs ++ packL l) w w' := by
  have H6 := Lib.hid h6
  have HW0 := Lib.hid (Rt.refl own)
  have HEL : Hid (∀ V, Chg w.heap.size (ob A bs c) w V → ∀ k, (hk : k < l.length) → ∃ b o, A0 = some ⟨b, o, none⟩ ∧ V.cell? ⟨b, o + k, none⟩ = some (.int .i64 l[k])) := Lib.hid fun V hC k hk => by
    obtain ⟨b, o, hA0, hc0⟩ := hs.int hk
    have hbr := hf b o hA0 (fun e => by subst e; simp at hk)
    have hblt : b < w.heap.size := World.block_lt_of_cell? _ _ hc0
    refine ⟨b, o, hA0, ?_⟩
    rw [World.cell?_of_block (a := ⟨b, o + k, none⟩) (hC.block b hblt (by omega) (fun e => hbr e.symm))]
    exact hc0
  have HPL : Hid (∀ k, k ≤ l.length → (packL (l.take k)).length ≤ 10 * k) := Lib.hid fun k hk => by
    have := packL_le (l := l.take k) (fun x hx => h6 x (List.mem_of_mem_take hx))
    rw [List.length_take] at this
    omega
  clear hs hf h6 own
  go_enter Try.func32, Try.ntmps32
  go_wp2_with fail
  go_loopw [0, 5] (fun bv i wr => ∃ (k : Nat) (A2 : Option Addr) (c2 : Nat), k ≤ l.length ∧ i = .int .i64 k ∧ bv = .slice A2 (bs ++ packL (l.take k)).length c2 ∧ Rt W (ob A bs c) A2 c2 (bs ++ packL (l.take k)) w wr) (fun _ i _ => l.length - (intOf i).toNat)
  case atStart => exact ⟨0, A, c, by omega, rfl, by simp [packL], by simpa [packL] using HW0.out⟩
  case round =>
    obtain ⟨k, A2, c2, hk, rfl, rfl, hW2⟩ := hrel
    by_cases hlk : k < l.length
    · have hlk1 : (k : Int) < (l.length : Int) := by omega
      have hk0 : (0 : Int) ≤ (k : Int) := by omega
      obtain ⟨b, o, hA0, hce⟩ := HEL.out wr hW2.chg k hlk
      have hT : packL (l.take (k + 1)) = packL (l.take k) ++ packI l[k] := by rw [List.take_succ_eq_append_getElem hlk, packL_append]; simp [packL]
      have hpk := HPL.out k hk
      obtain ⟨n, hn⟩ : ∃ n, l[k] = n := ⟨_, rfl⟩
      have hn6 : In64p n := by rw [← hn]; exact H6.out _ (List.getElem_mem hlk)
      rw [hn] at hce hT
      have hB2 : (bs ++ packL (l.take k)).length ≤ 1000000 := by rw [List.length_append]; omega
      have hT2 : bs ++ packL (l.take (k + 1)) = (bs ++ packL (l.take k)) ++ packI n := by rw [hT, List.append_assoc]
      obtain ⟨B2, hB2e⟩ : ∃ B2, bs ++ packL (l.take k) = B2 := ⟨_, rfl⟩
      rw [hB2e] at hW2 hB2 hT2 ⊢
      have HI := Lib.hid (rpint_any n hn6 wr)
      have hQ10 : (packI n).length ≤ 10 := vb_len10 (zz_lt hn6)
      obtain ⟨Q, hQ⟩ : ∃ Q, packI n = Q := ⟨_, rfl⟩
      rw [hQ] at HI hQ10 hT2
      have HT2 := Lib.hid hT2
      have HW2 := Lib.hid hW2
      have hszW : W ≤ wr.heap.size := Nat.le_trans hW hW2.chg.size
      subst hA0
      clear hT hn hn6 hpk hW2 hB2e hQ hT2
      go_wp2_with fail
      refine HI.out.mono ?_
      rintro e w2 ⟨⟨A3, c3, rfl, own3⟩, hb2⟩
      have hq := Sl.of_own own3
      have hW3 := HW2.out.below hb2
      have hszW2 : W ≤ w2.heap.size := Nat.le_trans hszW hb2.size
      clear HI hb2 own3
      go_wp2_with (first
        | (at_builtin; refine wpList_app3 rfl (.tmp 12) (.tmp 17) rfl EU8 rfl rfl hW3.own (m := Q.length) (by rw [by8_length, Nat.mul_one]) hq (by8_one _) (by unfold maxLen; omega) (by omega) hszW2 ?_; intro A5 c5 w5 own5 hg5 hv5 hb5)
        | fail)
      have hR : Rt W (ob A bs c) A5 c5 (B2 ++ Q) w w5 := hW3.trans (Rt.of_app hW3.own hg5 (by rw [List.length_append, by8_append]; exact own5) (by rw [List.length_append]; exact hv5))
      rw [← HT2.out] at hR
      go_roundw
      case rel => exact ⟨k + 1, A5, c5, by omega, by go_num, by rw [HT2.out, List.length_append], hR⟩
      case measure => simp [intOf]; omega
    · obtain rfl : k = l.length := by omega
      rw [List.take_length] at hW2 ⊢
      go_wp2_with fail
      go_ret
      exact ⟨A2, c2, rfl, hW2⟩
theorem CB.keepR {w w' w1 : World} {b W c : Nat} {z : List Int} {v : Value} {A : Option Addr} {bs : List Nat} (h : CB w b z v) (own : w1.ownsRow W 5 1 (.slice A (bs).length c) (bs).length (by8 (bs))) (hC : Chg w1.heap.size (ob A bs c) w1 w') (hb : Below w.heap.size w w1) : CB w' b z v :=
  ⟨own_keep34 own hC (h.below hb).blk (fun cs t f e => by injection e with _ e2 _; subst e2; decide), h.len⟩
end Go.Proofs.Ytpmnjojednbnpaa
end
section
namespace Go.Proofs.Ytpmnjojednbnpaa
open Go.ChangeShapes Go.WideShapes Go.ChangeAt Go.RowKit
set_option linter.unusedVariables false
set_option linter.unusedSimpArgs false

def Z16 : List Int := [16, 0, 0, 0, 0, 0, 0, 0, 0, 0, 0, 0, 0]
theorem enc16 : packL (encC Z16 []) = [32, 0] := by
  have e : encC Z16 [] = [16, 0] := rfl
  rw [e, packL_cons, packL_cons]
  have a : packI 16 = [32] := vb_low (by decide)
  have b : packI 0 = [0] := vb_low (by decide)
  rw [a, b]; rfl
theorem ok16 : okZ Z16 0 = true := by decide
theorem dec16 : decC [32, 0] = ⟨Z16, [], ⟨[], 0⟩⟩ := by
  rw [← enc16]
  exact dec_encE 16 0 0 0 0 0 0 0 0 0 0 0 0 [] (fun x hx => by cases hx) ⟨by decide, by decide⟩ ⟨by decide, by decide⟩ ⟨by decide, by decide⟩ ⟨by decide, by decide⟩ ⟨by decide, by decide⟩ ⟨by decide, by decide⟩ ⟨by decide, by decide⟩ ⟨by decide, by decide⟩ ⟨by decide, by decide⟩ ⟨by decide, by decide⟩ ⟨by decide, by decide⟩ ⟨by decide, by decide⟩ ⟨by decide, by decide⟩ (by decide)
theorem okD16 : okD (decC [32, 0]) = true := by rw [dec16]; decide
set_option maxHeartbeats 8000000 in
set_option maxRecDepth 100000 in
theorem lives34_any (w : World) : Calls Try.prog 14 #[] w fun e w' => e = .returned (.bool true) ∧ Below w.heap.size w w' := by
  have HE := Lib.hid (encodeE 16 0 0 0 0 0 0 0 0 0 0 0 0 none 0 [] w (by decide) (fun i => by
    match i with
    | 0 => exact ⟨by decide, by decide⟩
    | i + 1 =>
      have : ([16, 0, 0, 0, 0, 0, 0, 0, 0, 0, 0, 0, 0] : List Int).getD (i + 1) 0 = 0 := by
        rw [List.getD_cons_succ]
        rcases Nat.lt_or_ge i 12 with h | h
        · have : i = 0 ∨ i = 1 ∨ i = 2 ∨ i = 3 ∨ i = 4 ∨ i = 5 ∨ i = 6 ∨ i = 7 ∨ i = 8 ∨ i = 9 ∨ i = 10 ∨ i = 11 := by omega
          rcases this with rfl | rfl | rfl | rfl | rfl | rfl | rfl | rfl | rfl | rfl | rfl | rfl <;> rfl
        · rw [List.getD_eq_getElem?_getD, List.getElem?_eq_none (by simpa using h)]; rfl
      rw [this]
      exact ⟨by decide, by decide⟩) (fun x hx => by cases hx) Sl.nil)
  have e16 : packL (encC [16, 0, 0, 0, 0, 0, 0, 0, 0, 0, 0, 0, 0] []) = [32, 0] := enc16
  have o16 : okZ [16, 0, 0, 0, 0, 0, 0, 0, 0, 0, 0, 0, 0] ([] : List Int).length = true := ok16
  rw [e16, o16] at HE
  have HD := Lib.hid (fun A cap V (h : Sl V A (by8 [32, 0])) => decode34 A cap [32, 0] V (by decide) (fun x hx => by simp at hx; omega) h)
  rw [okD16, dec16] at HD
  clear e16 o16
  go_enter Try.func14, Try.ntmps14
  go_wp2_with fail
  refine HE.out.mono ?_
  rintro e v1 ⟨hr, hb1⟩
  unfold ERes34 at hr
  rw [if_pos rfl] at hr
  obtain ⟨A1, c1, rfl, own1⟩ := hr
  have hb2 := since_alloc (Below.refl _ v1) (.cells #[.int .u8 32, .int .u8 0] 5)
  have HD2 := Lib.hid (HD.out (some ⟨v1.heap.size, 0, none⟩) 2 (v1.alloc (.cells #[.int .u8 32, .int .u8 0] 5)) (Sl.new_ _ _ _))
  have HB1 := Lib.hid (since_step hb1 hb2)
  have HS1 := Lib.hid ((Sl.of_own own1).below hb2)
  clear hb1 hb2 own1 HE HD
  go_wp2_with fail
  refine HD2.out.mono ?_
  rintro e v2 ⟨hr, hb3⟩
  unfold DRes34 at hr
  rw [if_pos rfl] at hr
  obtain ⟨A2, c2, rfl, own2⟩ := hr
  have hb4 := since_alloc (Below.refl _ v2) (.cells #[.int .i64 16, .int .i64 0, .int .i64 0, .int .i64 0, .int .i64 0, .int .i64 0, .int .i64 0, .int .i64 0, .int .i64 0, .int .i64 0, .int .i64 0, .int .i64 0, .int .i64 0, .slice A2 0 c2] 26)
  have hb5 := since_step hb4 (since_alloc (Below.refl _ (v2.alloc (.cells #[.int .i64 16, .int .i64 0, .int .i64 0, .int .i64 0, .int .i64 0, .int .i64 0, .int .i64 0, .int .i64 0, .int .i64 0, .int .i64 0, .int .i64 0, .int .i64 0, .int .i64 0, .slice A2 0 c2] 26))) (.cells #[.int .u8 32, .int .u8 0] 5))
  have hB5 := since_step HB1.out (since_step hb3 hb5)
  have HQ := Lib.hid (same_any A1 (some ⟨v2.heap.size + 1, 0, none⟩) c1 2 [32, 0] [32, 0] _ (by decide) (by decide) ((HS1.out.below hb3).below hb5) (Sl.new1 _ _ _ _))
  simp only [decide_true] at HQ
  have hcx : cbox Z16 (.slice A2 ([] : List Int).length c2) = #[.int .i64 16, .int .i64 0, .int .i64 0, .int .i64 0, .int .i64 0, .int .i64 0, .int .i64 0, .int .i64 0, .int .i64 0, .int .i64 0, .int .i64 0, .int .i64 0, .int .i64 0, .slice A2 0 c2] := rfl
  simp only [hcx]
  clear hcx own2 hb3 hb4 hb5 HD2
  go_wp2_with fail
  refine HQ.out.mono ?_
  rintro e v5 ⟨rfl, n5, rfl⟩
  go_wp2_with fail
  go_ret
  exact ⟨rfl, below_drewN hB5 _⟩
end Go.Proofs.Ytpmnjojednbnpaa
end
section
namespace Go.Proofs.Ytpmnjojednbnpaa
open Go.ChangeShapes Go.WideShapes Go.ChangeAt Go.RowKit
set_option linter.unusedVariables false
set_option linter.unusedSimpArgs false

set_option maxHeartbeats 4000000 in
set_option maxRecDepth 100000 in
theorem rsamen_self (A B : Option Addr) (ca cb : Nat) (l : List Int) (w : World) (hl : l.length ≤ 1000) (ha : Sl w A (ints .i64 l)) (hb : Sl w B (ints .i64 l)) :
    Calls Try.prog 47 #[.slice A l.length ca, .slice B l.length cb] w fun e w' => e = .returned (.bool true) ∧ Below w.heap.size w w' := by
  have hne : ((l.length : Int) != (l.length : Int)) = false := by simp
  have HA := Lib.hid (fun V (hV : Below w.heap.size w V) k (hk : k < l.length) => (ha.below hV).int hk)
  have HB := Lib.hid (fun V (hV : Below w.heap.size w V) k (hk : k < l.length) => (hb.below hV).int hk)
  clear ha hb
  go_enter Try.func47, Try.ntmps47
  go_wp2_with fail
  go_loopw [5] (fun iv wr => ∃ k : Nat, k ≤ l.length ∧ iv = .int .i64 (k : Int) ∧ Below w.heap.size w wr) (fun iv _ => l.length - (intOf iv).toNat)
  case atStart => exact ⟨0, by omega, rfl, Below.refl _ _⟩
  case round =>
    obtain ⟨k, hk, rfl, hBw⟩ := hrel
    by_cases hkl : k < l.length
    · have hk1 : (k : Int) < (l.length : Int) := by omega
      have hk0 : (0 : Int) ≤ (k : Int) := by omega
      obtain ⟨b1, o1, rfl, h1⟩ := HA.out wr hBw k hkl
      obtain ⟨b2, o2, rfl, h2⟩ := HB.out wr hBw k hkl
      obtain ⟨n, hn⟩ : ∃ n, l[k] = n := ⟨_, rfl⟩
      rw [hn] at h1 h2
      have hnn : (n != n) = false := by simp
      have HBw := Lib.hid hBw
      clear hn hBw
      go_upto_region 6 with fail
      go_quiet (fail)
      have hB2 := below_drewN HBw.out nq
      go_wp2_with fail
      go_roundw
      case rel => exact ⟨k + 1, by omega, by go_num, hB2⟩
      case measure => simp [intOf]; omega
    · obtain rfl : k = l.length := by omega
      go_wp2_with fail
      go_ret
      exact ⟨rfl, hBw⟩
theorem rc_oct34 (l : List Nat) : rc (fun n : Nat => [Value.int .u8 (n : Int)]) l = by8 l := by
  unfold rc by8
  induction l with
  | nil => rfl
  | cons a l ih => simp only [List.map_cons, List.flatten_cons, ih]; rfl
theorem rd_oct34 {w : World} {r : List Value} (h : Rd w (.int .u8) r) : ∃ n : Nat, r = [.int .u8 (n : Int)] ∧ n < 256 := by
  obtain ⟨n, rfl, hn⟩ := h
  have := bd_u8 hn
  exact ⟨n.toNat, by rw [show ((n.toNat : Nat) : Int) = n by omega], by omega⟩
theorem rd_bytes {w : World} {A : Option Addr} {n c : Nat} (h : Rd w (.sl (.int .u8)) [.slice A n c]) : ∃ l : List Nat, l.length = n ∧ n ≤ c ∧ c ≤ maxLen ∧ Sl w A (by8 l) ∧ Oct l := by
  obtain ⟨l8, h1, h2, h3, h4, h5⟩ := rd_rowsP (f := fun n : Nat => [Value.int .u8 (n : Int)]) (fun r => rd_oct34) h
  rw [rc_oct34] at h4
  exact ⟨l8, h1, h2, h3, h4, h5⟩
end Go.Proofs.Ytpmnjojednbnpaa
end
