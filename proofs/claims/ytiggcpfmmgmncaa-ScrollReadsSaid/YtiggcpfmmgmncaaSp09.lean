import Derived.Test.YtiggcpfmmgmncaaSp08
section
namespace Go.Proofs.Ytiggcpfmmgmncaa
open Go.ChangeShapes Go.WideShapes Go.ChangeAt Go.RowKit
set_option linter.unusedVariables false
set_option linter.unusedSimpArgs false

set_option maxHeartbeats 4000000 in
set_option maxRecDepth 100000 in
theorem fenc7_ok (f : Fr) (A : Option Addr) (c : Nat) (w : World) (hok : f.ok = true) (hs : Sl w A (by8 f.data)) (ho : Oct f.data) :
    Calls Try.prog 80 #[f.val A c] w fun e w' => ERes w.heap.size w' e (encF f) ∧ Below w.heap.size w w' := by
  obtain ⟨life, era, seq, part, parts, data⟩ := f
  unfold Fr.val
  simp only at hs ho ⊢
  have HIS := Lib.hid (fit7_any ⟨life, era, seq, part, parts, data⟩ A c (w.alloc (.cells #[.int .i64 life, .int .i64 era, .int .i64 seq, .int .i64 part, .int .i64 parts, .slice A data.length c] 130)))
  unfold Fr.val at HIS
  simp only at HIS
  have HBX := Lib.hid (fun V (hV : Below (w.heap.size + 1) (w.alloc (.cells #[.int .i64 life, .int .i64 era, .int .i64 seq, .int .i64 part, .int .i64 parts, .slice A data.length c] 130)) V) => box6 (V := V) (by rw [World.size_alloc]; exact hV))
  have hE : encF ⟨life, era, seq, part, parts, data⟩ = (sealed (Fr.body ⟨life, era, seq, part, parts, data⟩), 0) := if_pos hok
  have hbo := Fr.body_oct hok ho
  have h11 := (Fr.ok_iff _).1 hok
  simp only at h11
  obtain ⟨g0, g1, g2, g3, g4, g5, g6, g7, g8, g9, g10⟩ := h11
  rw [hok] at HIS
  have hbl := Fr.body_len (f := ⟨life, era, seq, part, parts, data⟩) g10
  obtain ⟨R, hR⟩ : ∃ R, Fr.body ⟨life, era, seq, part, parts, data⟩ = R := ⟨_, rfl⟩
  rw [hR] at hE hbo hbl
  have HR : Hid (bign 3 life.toNat ++ bign 3 era.toNat ++ bign 4 seq.toNat ++ bign 1 part.toNat ++ bign 1 parts.toNat ++ bign 1 data.length ++ data ++ List.replicate (80 - data.length) 0 = R) := Lib.hid (by
    rw [← hR]
    unfold Fr.body
    simp only
    rw [bign_one (by omega), bign_one (by omega), bign_one (by omega)]
    simp only [List.append_assoc, List.singleton_append, List.cons_append, List.nil_append])
  have HE := Lib.hid hE
  have HBO := Lib.hid hbo
  have HBL := Lib.hid hbl
  have HSV := Lib.hid (fun V (hV : Below (w.heap.size + 1) (w.alloc (.cells #[.int .i64 life, .int .i64 era, .int .i64 seq, .int .i64 part, .int .i64 parts, .slice A data.length c] 130)) V) => (hs.alloc (.cells #[.int .i64 life, .int .i64 era, .int .i64 seq, .int .i64 part, .int .i64 parts, .slice A data.length c] 130)).below (w' := V) (by rw [World.size_alloc]; exact hV))
  have HL1 := Lib.hid (show ((life.toNat : Nat) : Int) = life ∧ ((era.toNat : Nat) : Int) = era ∧ ((seq.toNat : Nat) : Int) = seq ∧ ((part.toNat : Nat) : Int) = part ∧ ((parts.toNat : Nat) : Int) = parts by omega)
  have HL2 := Lib.hid (show life.toNat < 9223372036854775808 ∧ era.toNat < 9223372036854775808 ∧ seq.toNat < 9223372036854775808 ∧ part.toNat < 9223372036854775808 ∧ parts.toNat < 9223372036854775808 ∧ data.length < 9223372036854775808 by omega)
  clear hE hbo hbl hok hs g0 g1 g2 g3 g4 g5 g6 g7 g8 g9 hR ho
  go_enter Try.func80, Try.ntmps80
  go_wp2_with fail
  refine HIS.out.mono ?_
  rintro e v1 ⟨rfl, hB⟩
  rw [World.size_alloc] at hB
  obtain ⟨y0, y1, y2, y3, y4, y5⟩ := HBX.out _ hB
  have hz := hB.size
  rw [World.size_alloc] at hz
  clear HIS
  go_wp2_with (first
    | (at_make; refine wpList_mk rfl (.const (.int .i64 0)) (.const (.int .i64 93)) rfl EF8 93 rfl rfl rfl (by omega) (by unfold maxLen; omega) hz ?_; intro x0 ownP hb0; have hB := hB.trans (hb0.mono hz); have hz0 : w.heap.size + 1 ≤ x0.heap.size := (by have := hb0.size; omega); obtain ⟨y0, y1, y2, y3, y4, y5⟩ := HBX.out _ hB)
    | fail)
  have hp := put7_fit (w.heap.size + 1) v1.heap.size 93 ([]) life.toNat 3 x0 (by decide) HL2.out.1 (by simp only [List.nil_append, List.length_append, bign_len, List.length_nil, List.length_cons, Nat.zero_add, Nat.reduceAdd]; decide) (by decide) hz0 (by simpa only [List.nil_append, List.length_append, bign_len, List.length_nil, List.length_cons, Nat.zero_add, Nat.reduceAdd, by8, List.map_nil] using ownP)
  rw [HL1.out.1] at hp
  simp only [List.nil_append, List.length_append, bign_len, List.length_nil, List.length_cons, Nat.zero_add, Nat.reduceAdd] at hp
  have HP := Lib.hid hp
  clear hp
  refine HP.out.mono ?_
  rintro e x1 ⟨rfl, ownP, hb⟩
  have hB := hB.trans hb
  have hz1 : w.heap.size + 1 ≤ x1.heap.size := by have := hb.size; omega
  obtain ⟨y0, y1, y2, y3, y4, y5⟩ := HBX.out _ hB
  clear HP hb
  go_wp2_with fail
  have hp := put7_fit (w.heap.size + 1) v1.heap.size 93 (bign 3 life.toNat) era.toNat 3 x1 (by decide) HL2.out.2.1 (by simp only [List.nil_append, List.length_append, bign_len, List.length_nil, List.length_cons, Nat.zero_add, Nat.reduceAdd]; decide) (by decide) hz1 (by simpa only [List.nil_append, List.length_append, bign_len, List.length_nil, List.length_cons, Nat.zero_add, Nat.reduceAdd, by8, List.map_nil] using ownP)
  rw [HL1.out.2.1] at hp
  simp only [List.nil_append, List.length_append, bign_len, List.length_nil, List.length_cons, Nat.zero_add, Nat.reduceAdd] at hp
  have HP := Lib.hid hp
  clear hp
  refine HP.out.mono ?_
  rintro e x2 ⟨rfl, ownP, hb⟩
  have hB := hB.trans hb
  have hz2 : w.heap.size + 1 ≤ x2.heap.size := by have := hb.size; omega
  obtain ⟨y0, y1, y2, y3, y4, y5⟩ := HBX.out _ hB
  clear HP hb
  go_wp2_with fail
  have hp := put7_fit (w.heap.size + 1) v1.heap.size 93 (bign 3 life.toNat ++ bign 3 era.toNat) seq.toNat 4 x2 (by decide) HL2.out.2.2.1 (by simp only [List.nil_append, List.length_append, bign_len, List.length_nil, List.length_cons, Nat.zero_add, Nat.reduceAdd]; decide) (by decide) hz2 (by simpa only [List.nil_append, List.length_append, bign_len, List.length_nil, List.length_cons, Nat.zero_add, Nat.reduceAdd, by8, List.map_nil] using ownP)
  rw [HL1.out.2.2.1] at hp
  simp only [List.nil_append, List.length_append, bign_len, List.length_nil, List.length_cons, Nat.zero_add, Nat.reduceAdd] at hp
  have HP := Lib.hid hp
  clear hp
  refine HP.out.mono ?_
  rintro e x3 ⟨rfl, ownP, hb⟩
  have hB := hB.trans hb
  have hz3 : w.heap.size + 1 ≤ x3.heap.size := by have := hb.size; omega
  obtain ⟨y0, y1, y2, y3, y4, y5⟩ := HBX.out _ hB
  clear HP hb
  go_wp2_with fail
  have hp := put7_fit (w.heap.size + 1) v1.heap.size 93 (bign 3 life.toNat ++ bign 3 era.toNat ++ bign 4 seq.toNat) part.toNat 1 x3 (by decide) HL2.out.2.2.2.1 (by simp only [List.nil_append, List.length_append, bign_len, List.length_nil, List.length_cons, Nat.zero_add, Nat.reduceAdd]; decide) (by decide) hz3 (by simpa only [List.nil_append, List.length_append, bign_len, List.length_nil, List.length_cons, Nat.zero_add, Nat.reduceAdd, by8, List.map_nil] using ownP)
  rw [HL1.out.2.2.2.1] at hp
  simp only [List.nil_append, List.length_append, bign_len, List.length_nil, List.length_cons, Nat.zero_add, Nat.reduceAdd] at hp
  have HP := Lib.hid hp
  clear hp
  refine HP.out.mono ?_
  rintro e x4 ⟨rfl, ownP, hb⟩
  have hB := hB.trans hb
  have hz4 : w.heap.size + 1 ≤ x4.heap.size := by have := hb.size; omega
  obtain ⟨y0, y1, y2, y3, y4, y5⟩ := HBX.out _ hB
  clear HP hb
  go_wp2_with fail
  have hp := put7_fit (w.heap.size + 1) v1.heap.size 93 (bign 3 life.toNat ++ bign 3 era.toNat ++ bign 4 seq.toNat ++ bign 1 part.toNat) parts.toNat 1 x4 (by decide) HL2.out.2.2.2.2.1 (by simp only [List.nil_append, List.length_append, bign_len, List.length_nil, List.length_cons, Nat.zero_add, Nat.reduceAdd]; decide) (by decide) hz4 (by simpa only [List.nil_append, List.length_append, bign_len, List.length_nil, List.length_cons, Nat.zero_add, Nat.reduceAdd, by8, List.map_nil] using ownP)
  rw [HL1.out.2.2.2.2] at hp
  simp only [List.nil_append, List.length_append, bign_len, List.length_nil, List.length_cons, Nat.zero_add, Nat.reduceAdd] at hp
  have HP := Lib.hid hp
  clear hp
  refine HP.out.mono ?_
  rintro e x5 ⟨rfl, ownP, hb⟩
  have hB := hB.trans hb
  have hz5 : w.heap.size + 1 ≤ x5.heap.size := by have := hb.size; omega
  obtain ⟨y0, y1, y2, y3, y4, y5⟩ := HBX.out _ hB
  clear HP hb
  go_wp2_with fail
  have hp := put7_fit (w.heap.size + 1) v1.heap.size 93 (bign 3 life.toNat ++ bign 3 era.toNat ++ bign 4 seq.toNat ++ bign 1 part.toNat ++ bign 1 parts.toNat) data.length 1 x5 (by decide) HL2.out.2.2.2.2.2 (by simp only [List.nil_append, List.length_append, bign_len, List.length_nil, List.length_cons, Nat.zero_add, Nat.reduceAdd]; decide) (by decide) hz5 (by simpa only [List.nil_append, List.length_append, bign_len, List.length_nil, List.length_cons, Nat.zero_add, Nat.reduceAdd, by8, List.map_nil] using ownP)
  simp only [List.nil_append, List.length_append, bign_len, List.length_nil, List.length_cons, Nat.zero_add, Nat.reduceAdd] at hp
  have HP := Lib.hid hp
  clear hp
  refine HP.out.mono ?_
  rintro e x6 ⟨rfl, ownP, hb⟩
  have hB := hB.trans hb
  have hz6 : w.heap.size + 1 ≤ x6.heap.size := by have := hb.size; omega
  obtain ⟨y0, y1, y2, y3, y4, y5⟩ := HBX.out _ hB
  clear HP hb
  obtain ⟨P, hP⟩ : ∃ P, bign 3 life.toNat ++ bign 3 era.toNat ++ bign 4 seq.toNat ++ bign 1 part.toNat ++ bign 1 parts.toNat ++ bign 1 data.length = P := ⟨_, rfl⟩
  rw [hP] at ownP HR
  clear hP
  have hsd := HSV.out _ hB
  obtain ⟨d, hd⟩ : ∃ d, data.length = d := ⟨_, rfl⟩
  have HD := Lib.hid hd
  rw [hd] at HR g10 y5 ⊢
  clear hd HL1 HL2 HBX
  have hK : (93 : Int) - (13 + (d : Int)) = ((80 - d : Nat) : Int) := by omega
  have HK := Lib.hid hK
  clear hK
  have hBw : Below w.heap.size w x6 := ((Below.refl _ w).alloc (Nat.le_refl _) _).trans (hB.mono (Nat.le_succ _))
  go_wp2_with (first
    | (at_builtin; refine wpList_fits0 rfl (.tmp 34) (.tmp 36) rfl rfl rfl ownP HD.out hsd (by omega) ?_; intro x7 own7 hb7)
    | (at_builtin; refine wpList_zr rfl (.tmp 38) (.tmp 41) rfl (k := 80 - d) rfl rfl (by have := HK.out; omega) own7 (by omega) (by decide) ?_; intro x8 own8 hb8)
    | fail)
  have hn93 : 13 + d + (80 - d) = 93 := by omega
  have hD2 : data.length = d := HD.out
  rw [HR.out] at own8
  rw [hn93] at own8 ⊢
  have hB8 : Below w.heap.size w x8 := (hBw.trans (hb7.mono (Nat.le_succ _))).trans (hb8.mono (Nat.le_succ _))
  have hz8 : w.heap.size ≤ x8.heap.size := hB8.size
  have hSE := seal_any (some ⟨v1.heap.size, 0, none⟩) 93 R x8 (by rw [HBL.out]; omega) (Sl.of_own own8) HBO.out
  rw [HBL.out] at hSE
  have HSE := Lib.hid hSE
  clear hSE hn93 own7 own8 ownP hb7 hb8 hB hBw y0 y1 y2 y3 y4 y5 hsd
  refine HSE.out.mono ?_
  rintro e w2 ⟨A3, c3, rfl, own3, hb⟩
  go_wp2_with fail
  go_ret2
  have hl96 : (sealed R).length = 93 + 3 := by rw [sealed_len, HBL.out]
  refine ⟨⟨A3, c3, ?_, ?_⟩, hB8.trans (hb.mono hz8)⟩
  · rw [HE.out]; simp only; rw [hl96]; rfl
  · rw [HE.out]; simp only; rw [hl96]; exact own_base own3 hz8
end Go.Proofs.Ytiggcpfmmgmncaa
end
