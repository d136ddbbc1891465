/-
  Layer 7, eighteenth part: lives (laid by hand).
-/
import Derived.Test.YtfibpkbbpnjepaaFrame17
namespace Go.Proofs.Ytfibpkbbpnjepaa
open Go.ChangeShapes Go.WideShapes Go.ChangeAt Go.RowKit
set_option linter.unusedVariables false
set_option linter.unusedSimpArgs false

theorem CRes.two {B : Nat} {w' : World} {e : Ending} {c0 c1 : List Nat} (h : CRes B w' e ([c0, c1], 0)) : ∃ A' c' A0 d0 A1 d1, e = .returned (.tuple #[.slice A' 2 c', .int .i64 0]) ∧ Sl w' A' [.slice A0 c0.length d0, .slice A1 c1.length d1] ∧ w'.ownsRow B 5 1 (.slice A0 c0.length d0) c0.length (by8 c0) ∧ w'.ownsRow B 5 1 (.slice A1 c1.length d1) c1.length (by8 c1) := by
  obtain ⟨A', c', S, rfl, own, hm, hr⟩ := h
  match S, hm with
  | [s0, s1], hm =>
    simp only [List.map_cons, List.map_nil, List.cons.injEq, and_true] at hm
    obtain ⟨rfl, rfl⟩ := hm
    exact ⟨A', c', s0.A, s0.c, s1.A, s1.c, rfl, Sl.of_own own, hr s0 (by simp), hr s1 (by simp)⟩
theorem oct_sealed {l : List Nat} (h : Oct l) : Oct (sealed l) := h.app (fun x hx => by
  have hm := CrcM.more_lt 11994318 l (by omega) h
  simp only [three, List.mem_cons, List.not_mem_nil, or_false] at hx
  rcases hx with rfl | rfl | rfl <;> omega)
/-- Decode of a sector that Encode made -/
theorem fdec7_enc (f : Fr) (A : Option Addr) (c : Nat) (w : World) (hf : f.ok = true) (hcm : (sealed f.body).length ≤ c) (hc : c ≤ maxLen) (hs : Sl w A (by8 (sealed f.body))) (ho : Oct f.data) :
    Calls Try.prog 11 #[.slice A (sealed f.body).length c] w fun e w' => DRes w.heap.size w' e (f, 0) ∧ Below w.heap.size w w' := by
  have h := fdec7_any A c (sealed f.body) w hcm hc hs (oct_sealed (Fr.body_oct hf ho))
  have e := dec_enc hf
  unfold encF at e
  rw [if_pos hf] at e
  rw [e] at h
  exact h
theorem Bk.six {w : World} {g : Nat} {a0 a1 a2 a3 a4 a5 : Value} (h : Bk w g #[a0, a1, a2, a3, a4, a5]) : g < w.heap.size ∧ w.cell? ⟨g, 0, none⟩ = some a0 ∧ w.cell? ⟨g, 1, none⟩ = some a1 ∧ w.cell? ⟨g, 2, none⟩ = some a2 ∧ w.cell? ⟨g, 3, none⟩ = some a3 ∧ w.cell? ⟨g, 4, none⟩ = some a4 ∧ w.cell? ⟨g, 5, none⟩ = some a5 :=
  ⟨h.1, h.2 0, h.2 1, h.2 2, h.2 3, h.2 4, h.2 5⟩
def p7a : Fr := ⟨1, 0, 1, 0, 2, List.replicate 80 0⟩
def p7b : Fr := ⟨1, 0, 1, 1, 2, List.replicate 20 0⟩
theorem p7a_ok : p7a.ok = true := by decide
theorem p7b_ok : p7b.ok = true := by decide
theorem cut7_live : cutF 1 0 1 (List.replicate 100 0) = ([sealed p7a.body, sealed p7b.body], 0) := by
  have h1 : partsN (List.replicate 100 0).length = 2 := by rw [List.length_replicate]; decide
  have e0 : piece 1 0 1 (List.replicate 100 0) 2 0 = p7a := by rfl
  have e1 : piece 1 0 1 (List.replicate 100 0) 2 1 = p7b := by rfl
  unfold cutF
  rw [h1, if_neg (by decide), e0, if_pos p7a_ok]
  unfold cellsF
  rw [show List.range 2 = [0, 1] by decide]
  simp only [List.map_cons, List.map_nil, e0, e1]
theorem join7_live : joinF [p7a, p7b] = (List.replicate 100 0, true) := by decide
theorem own_max {w : World} {base e size n c : Nat} {A : Option Addr} {xs : List Value} (h : w.ownsRow base e size (.slice A n c) n xs) : c ≤ maxLen := by
  rcases h.2 with ⟨e, _⟩ | ⟨g, cap, cur, e, _, _, _, hcm, _⟩
  · injection e with _ _ e3; subst e3; unfold maxLen; omega
  · injection e with _ _ e3; subst e3; exact hcm

set_option maxHeartbeats 4000000 in
set_option maxRecDepth 100000 in
theorem lives7_any (w : World) : Calls Try.prog 15 #[] w fun e w' => e = .returned (.bool true) ∧ Below w.heap.size w w' := by
  have HC := Lib.hid (fun A V hs => fcut7_any 1 0 1 A 100 (List.replicate 100 0) V (by simp) (by decide) (by simp) hs Oct.rep)
  rw [cut7_live] at HC
  simp only [List.length_replicate] at HC
  have HDA := Lib.hid (fun A c V h1 h2 hs => fdec7_enc p7a A c V p7a_ok h1 h2 hs Oct.rep)
  have HDB := Lib.hid (fun A c V h1 h2 hs => fdec7_enc p7b A c V p7b_ok h1 h2 hs Oct.rep)
  have HJ := Lib.hid (fun B A0 c0 A1 c1 V hs h0 h1 => fjoin7_any B 2 [⟨p7a, A0, c0⟩, ⟨p7b, A1, c1⟩] V (by simp) hs (fun h hh => by
    simp only [List.mem_cons, List.not_mem_nil, or_false] at hh
    rcases hh with rfl | rfl
    · exact ⟨h0, by simp [p7a]⟩
    · exact ⟨h1, by simp [p7b]⟩))
  simp only [List.map_cons, List.map_nil, join7_live, List.length_cons, List.length_nil, List.length_replicate] at HJ
  have ha : (sealed p7a.body).length = 96 := by rw [sealed_len, Fr.body_len (by decide)]
  have hb : (sealed p7b.body).length = 96 := by rw [sealed_len, Fr.body_len (by decide)]
  generalize hca : sealed p7a.body = ca at *
  generalize hcb : sealed p7b.body = cb at *
  rw [ha] at HDA
  rw [hb] at HDB
  have HA := Lib.hid ha
  have HB := Lib.hid hb
  clear ha hb hca hcb
  go_enter Try.func15, Try.ntmps15
  go_wp2_with (first
    | (at_make; refine wpList_zeros8 rfl (.const (.int .i64 100)) (.const (.int .i64 100)) rfl 100 rfl rfl rfl rfl (by omega) (Nat.le_refl _) ?_; intro w1 own1 hb1)
    | fail)
  refine (HC.out _ _ (Sl.of_own own1)).mono ?_
  rintro e w2 ⟨hC, hb2⟩
  obtain ⟨A2, c2, A0, d0, A1, d1, rfl, hs2, o0, o1⟩ := hC.two
  have hB := since_step hb1 hb2
  obtain ⟨b, o, rfl, q0⟩ := hs2.at_ (j := 0) (by simp)
  obtain ⟨b', o', e, q1⟩ := hs2.at_ (j := 1) (by simp)
  injection e with e; injection e with e1 e2; subst e1; subst e2
  simp only [List.getElem_cons_zero, List.getElem_cons_succ, Nat.add_zero] at q0 q1
  rw [HA.out] at q0 o0
  rw [HB.out] at q1 o1
  have r0 := Lib.hid (own_le o0)
  have r1 := Lib.hid (own_le o1)
  have m0 := Lib.hid (own_max o0)
  have m1 := Lib.hid (own_max o1)
  have s0 := Sl.of_own o0
  have s1 := Sl.of_own o1
  have hbl : b < w2.heap.size := World.block_lt_of_cell? _ _ q0
  clear o0 o1 hs2 own1 hb1 hb2 hC HC
  go_wp2_with fail
  refine (HDA.out _ _ _ r0.out m0.out s0).mono ?_
  rintro e w3 ⟨⟨A3, c3, rfl, own3⟩, hb3⟩
  have hB := since_step hB hb3
  have q1 := (hb3.cell (p := ⟨b, o + 1, none⟩) hbl).trans q1
  have s1 := s1.below hb3
  have hbl : b < w3.heap.size := Nat.lt_of_lt_of_le hbl hb3.size
  have s3 := Sl.of_own own3
  clear own3 hb3 q0 s0
  unfold Fr.val
  simp only [show p7a.life = 1 from rfl, show p7a.era = 0 from rfl, show p7a.seq = 1 from rfl, show p7a.part = 0 from rfl, show p7a.parts = 2 from rfl, show p7a.data.length = 80 by simp [p7a]]
  go_wp2_with fail
  have kA := Bk.new w3 #[.int .i64 1, .int .i64 0, .int .i64 1, .int .i64 0, .int .i64 2, .slice A3 80 c3] 25
  have hA := (Below.refl w3.heap.size w3).alloc (Nat.le_refl _) (.cells #[.int .i64 1, .int .i64 0, .int .i64 1, .int .i64 0, .int .i64 2, .slice A3 80 c3] 25)
  have s1 := s1.below hA
  have s3 := s3.below hA
  have hB := since_step hB hA
  refine (HDB.out _ _ _ r1.out m1.out s1).mono ?_
  rintro e w4 ⟨⟨A4, c4, rfl, own4⟩, hb4⟩
  have hB := since_step hB hb4
  have s3 := s3.below hb4
  have kA := kA.below hb4
  have s4 := Sl.of_own own4
  obtain ⟨gA, a0, a1, a2, a3, a4, a5⟩ := kA.six
  clear own4 hb4 s1 hA
  unfold Fr.val
  simp only [show p7b.life = 1 from rfl, show p7b.era = 0 from rfl, show p7b.seq = 1 from rfl, show p7b.part = 1 from rfl, show p7b.parts = 2 from rfl, show p7b.data.length = 20 by simp [p7b]]
  go_wp2_with fail
  have kB := Bk.new w4 #[.int .i64 1, .int .i64 0, .int .i64 1, .int .i64 1, .int .i64 2, .slice A4 20 c4] 25
  have hA := (Below.refl w4.heap.size w4).alloc (Nat.le_refl _) (.cells #[.int .i64 1, .int .i64 0, .int .i64 1, .int .i64 1, .int .i64 2, .slice A4 20 c4] 25)
  have hA2 := since_alloc hA (.cells #[.int .i64 1, .int .i64 0, .int .i64 1, .int .i64 0, .int .i64 2, .slice A3 80 c3, .int .i64 1, .int .i64 0, .int .i64 1, .int .i64 1, .int .i64 2, .slice A4 20 c4] 25)
  have s3 := s3.below hA2
  have s4 := s4.below hA2
  have kB := kB.alloc (.cells #[.int .i64 1, .int .i64 0, .int .i64 1, .int .i64 0, .int .i64 2, .slice A3 80 c3, .int .i64 1, .int .i64 0, .int .i64 1, .int .i64 1, .int .i64 2, .slice A4 20 c4] 25)
  have hB := since_step hB hA2
  have hs := Sl.new1 w4 (.cells #[.int .i64 1, .int .i64 0, .int .i64 1, .int .i64 1, .int .i64 2, .slice A4 20 c4] 25) (rc Fh.cells [⟨p7a, A3, c3⟩, ⟨p7b, A4, c4⟩]) 25
  clear hA hA2
  refine (HJ.out _ _ _ _ _ _ hs s3 s4).mono ?_
  rintro e w5 ⟨⟨A5, c5, rfl, own5⟩, hb5⟩
  have hB := since_step hB hb5
  have kB := kB.below hb5
  obtain ⟨gB, d0, d1, d2, d3, d4, d5⟩ := kB.six
  clear hb5 own5 hs kA
  go_wp2_with fail
  go_ret
  exact ⟨rfl, hB⟩
end Go.Proofs.Ytfibpkbbpnjepaa
