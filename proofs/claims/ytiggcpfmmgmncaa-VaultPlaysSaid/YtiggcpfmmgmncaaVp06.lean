import Derived.Test.YtiggcpfmmgmncaaVp05
set_option maxHeartbeats 16000000
set_option maxRecDepth 100000
set_option linter.unusedVariables false
set_option linter.unusedSimpArgs false
namespace Go.Proofs.Ytiggcpfmmgmncaa
open Go.ChangeShapes Go.WideShapes Go.ChangeAt Go.RowKit
section
theorem Sl.dropN {w : World} {b o : Nat} {xs : List Value} (h : Sl w (some ⟨b, o, none⟩) xs) (n : Nat) : Sl w (some ⟨b, o + n, none⟩) (xs.drop n) := by
  intro hne
  obtain ⟨b', o', hA, hc⟩ := h (by rintro rfl; simp at hne)
  injection hA with hA
  injection hA with h1 h2
  subst h1; subst h2
  refine ⟨b, o + n, rfl, fun j u hu => ?_⟩
  rw [List.getElem?_drop] at hu
  have := hc _ _ hu
  rwa [← Nat.add_assoc] at this
theorem by8_drop (l : List Nat) (n : Nat) : by8 (l.drop n) = (by8 l).drop n := by simp [by8, List.map_drop]
theorem Oct.drop {l : List Nat} (h : Oct l) (n : Nat) : Oct (l.drop n) := fun x hx => h x (List.mem_of_mem_drop hx)
def seg (b : List Nat) (n m : Nat) : List Nat := (b.drop n).take m
theorem seg_len {b : List Nat} {n m : Nat} (h : n + m ≤ b.length) : (seg b n m).length = m := by
  unfold seg; rw [List.length_take, List.length_drop]; omega
theorem seg_oct {b : List Nat} (h : Oct b) (n m : Nat) : Oct (seg b n m) := (h.drop n).take m
theorem Sl.seg {w : World} {b o : Nat} {l : List Nat} (h : Sl w (some ⟨b, o, none⟩) (by8 l)) (n m : Nat) : Sl w (some ⟨b, o + n, none⟩) (by8 (seg l n m)) := by
  have := (h.dropN n).take m
  rw [← by8_drop, ← by8_take] at this
  exact this
theorem seg_split (b : List Nat) (n m : Nat) : b.drop n = seg b n m ++ b.drop (n + m) := by
  unfold seg
  rw [← List.drop_drop, List.take_append_drop]
theorem seg_one {b : List Nat} {n : Nat} (h : n < b.length) : seg b n 1 = [b.getD n 0] := by
  unfold seg
  rw [List.drop_eq_getElem_cons h, List.take_succ_cons, List.take_zero]
  simp [List.getD_eq_getElem?_getD, List.getElem?_eq_getElem h]
def cand (b : List Nat) : Fr := ⟨(bnum (seg b 0 3) : Nat), (bnum (seg b 3 3) : Nat), (bnum (seg b 6 4) : Nat), (b.getD 10 0 : Nat), (b.getD 11 0 : Nat), seg b 13 (b.getD 12 0)⟩
def Fr0 : Fr := ⟨0, 0, 0, 0, 0, []⟩
def decF (b : List Nat) : Fr × Int := if b.length = 96 ∧ (cand b).ok = true ∧ sealed (cand b).body = b then (cand b, 0) else (Fr0, 3)
theorem decF_short {b : List Nat} (h : b.length ≠ 96) : decF b = (Fr0, 3) := if_neg fun e => h e.1
theorem decF_bad {b : List Nat} (h : (cand b).ok = false) : decF b = (Fr0, 3) := if_neg fun e => by rw [h] at e; exact absurd e.2.1 (by decide)
theorem decF_no {b : List Nat} (h : sealed (cand b).body ≠ b) : decF b = (Fr0, 3) := if_neg fun e => h e.2.2
theorem decF_yes {b : List Nat} (h0 : b.length = 96) (h1 : (cand b).ok = true) (h2 : sealed (cand b).body = b) : decF b = (cand b, 0) := if_pos ⟨h0, h1, h2⟩
theorem blankF_rep {l : List Nat} (h : blankF l = true) : l = List.replicate l.length 0 := by
  unfold blankF at h
  rw [List.all_eq_true] at h
  exact List.eq_replicate_iff.2 ⟨rfl, fun x hx => by simpa using h x hx⟩
theorem blankF_of_rep {n : Nat} : blankF (List.replicate n 0) = true := by
  unfold blankF
  rw [List.all_eq_true]
  intro x hx
  rw [List.mem_replicate] at hx
  simpa using hx.2
theorem cand_body {b : List Nat} (hl : b.length = 96) (ho : Oct b) (hd : b.getD 12 0 ≤ 80) :
    (cand b).body = (b.take 13 ++ seg b 13 (b.getD 12 0)) ++ List.replicate (80 - b.getD 12 0) 0 := by
  obtain ⟨d, hd0⟩ : ∃ d, b.getD 12 0 = d := ⟨_, rfl⟩
  rw [hd0] at hd ⊢
  have hdl : (seg b 13 d).length = d := seg_len (by omega)
  unfold Fr.body cand
  simp only [Int.toNat_natCast, hd0, hdl]
  have e0 : bign 3 (bnum (seg b 0 3)) = seg b 0 3 := by have := bign_bnum (seg_oct ho 0 3); rwa [seg_len (by omega)] at this
  have e1 : bign 3 (bnum (seg b 3 3)) = seg b 3 3 := by have := bign_bnum (seg_oct ho 3 3); rwa [seg_len (by omega)] at this
  have e2 : bign 4 (bnum (seg b 6 4)) = seg b 6 4 := by have := bign_bnum (seg_oct ho 6 4); rwa [seg_len (by omega)] at this
  rw [e0, e1, e2]
  have key : b.take 13 = seg b 0 3 ++ seg b 3 3 ++ seg b 6 4 ++ [b.getD 10 0, b.getD 11 0, d] := by
    have h1 : b = seg b 0 3 ++ b.drop 3 := by have := seg_split b 0 3; simpa using this
    have h2 := seg_split b 3 3
    have h3 := seg_split b 6 4
    have h4 := seg_split b 10 1
    have h5 := seg_split b 11 1
    have h6 := seg_split b 12 1
    rw [seg_one (by omega)] at h4 h5 h6
    rw [hd0] at h6
    have hb : b = (seg b 0 3 ++ seg b 3 3 ++ seg b 6 4 ++ [b.getD 10 0, b.getD 11 0, d]) ++ b.drop 13 := by
      conv => lhs; rw [h1, h2, h3, h4, h5, h6]
      simp only [List.append_assoc, List.singleton_append, List.cons_append, List.nil_append, Nat.reduceAdd]
    conv => lhs; rw [hb]
    refine List.take_left' ?_
    simp only [List.length_append, List.length_cons, List.length_nil]
    rw [seg_len (by omega), seg_len (by omega), seg_len (by omega)]
  rw [key]
theorem cand_body_blank {b : List Nat} (hl : b.length = 96) (ho : Oct b) (hd : b.getD 12 0 ≤ 80) (hz : blankF (seg b (13 + b.getD 12 0) (80 - b.getD 12 0)) = true) : (cand b).body = b.take 93 := by
  rw [cand_body hl ho hd]
  obtain ⟨d, hd0⟩ : ∃ d, b.getD 12 0 = d := ⟨_, rfl⟩
  rw [hd0] at hd hz ⊢
  have h1 := blankF_rep hz
  rw [seg_len (by omega)] at h1
  rw [← h1]
  have e1 : b.take (13 + d) = b.take 13 ++ seg b 13 d := by
    unfold seg
    rw [List.take_add]
  have e2 : b.take 93 = b.take (13 + d) ++ seg b (13 + d) (80 - d) := by
    unfold seg
    rw [← List.take_add]
    congr 1; omega
  rw [e2, e1]
theorem cand_body_not {b : List Nat} (hl : b.length = 96) (ho : Oct b) (hd : b.getD 12 0 ≤ 80) (hz : blankF (seg b (13 + b.getD 12 0) (80 - b.getD 12 0)) = false) : sealed (cand b).body ≠ b := by
  intro h
  rw [cand_body hl ho hd] at h
  obtain ⟨d, hd0⟩ : ∃ d, b.getD 12 0 = d := ⟨_, rfl⟩
  rw [hd0] at hd hz h
  have h2 : seg b (13 + d) (80 - d) = List.replicate (80 - d) 0 := by
    have hc : seg (sealed (b.take 13 ++ seg b 13 d ++ List.replicate (80 - d) 0)) (13 + d) (80 - d) = seg b (13 + d) (80 - d) := by rw [h]
    rw [← hc]
    unfold seg sealed
    have hX : (b.take 13 ++ (b.drop 13).take d).length = 13 + d := by
      rw [List.length_append, List.length_take, List.length_take, List.length_drop]; omega
    rw [List.append_assoc, List.drop_left' hX, List.take_left' (by simp)]
  rw [h2, blankF_of_rep] at hz
  cases hz
theorem three_eq {p q r m : Nat} (hp : p < 256) (hq : q < 256) (hr : r < 256) (h : p * 65536 + q * 256 + r = m) : [p, q, r] = three m := by
  subst h
  unfold three
  have e1 : (p * 65536 + q * 256 + r) / 65536 = p := by omega
  have e2 : (p * 65536 + q * 256 + r) / 256 % 256 = q := by omega
  have e3 : (p * 65536 + q * 256 + r) % 256 = r := by omega
  rw [e1, e2, e3]
theorem three_ne {p q r m : Nat} (h : [p, q, r] = three m) : p * 65536 + q * 256 + r = m := by
  unfold three at h
  simp only [List.cons.injEq, and_true] at h
  omega
theorem cell_split {b : List Nat} (hl : b.length = 96) : ∃ p q r, b = b.take 93 ++ [p, q, r] := by
  refine ⟨b.getD 93 0, b.getD 94 0, b.getD 95 0, ?_⟩
  have h4 := seg_split b 93 1
  have h5 := seg_split b 94 1
  have h6 := seg_split b 95 1
  rw [seg_one (by omega)] at h4 h5 h6
  have h7 : b.drop 96 = [] := List.drop_eq_nil_of_le (by omega)
  simp only [Nat.reduceAdd] at h4 h5 h6
  rw [h7] at h6
  have := (List.take_append_drop 93 b).symm
  conv => lhs; rw [this, h4, h5, h6]
  simp
theorem seg_app_left {a b : List Nat} {n m : Nat} (h : n + m ≤ a.length) : seg (a ++ b) n m = seg a n m := by
  unfold seg
  rw [List.drop_append_of_le_length (by omega), List.take_append_of_le_length (by rw [List.length_drop]; omega)]
theorem cand_enc {f : Fr} (h : f.ok = true) : cand (sealed f.body) = f := by
  obtain ⟨life, era, seq, part, parts, data⟩ := f
  have h11 := (Fr.ok_iff _).1 h
  simp only at h11
  obtain ⟨g0, g1, g2, g3, g4, g5, g6, g7, g8, g9, g10⟩ := h11
  have hbl := Fr.body_len (f := ⟨life, era, seq, part, parts, data⟩) g10
  have l1 := bign_len 3 life.toNat
  have l2 := bign_len 3 era.toNat
  have l3 := bign_len 4 seq.toNat
  have n1 := bnum_bign 3 life.toNat (by omega)
  have n2 := bnum_bign 3 era.toNat (by omega)
  have n3 := bnum_bign 4 seq.toNat (by omega)
  unfold cand sealed
  have s0 : seg (Fr.body ⟨life, era, seq, part, parts, data⟩ ++ three (CrcM.more 11994318 (Fr.body ⟨life, era, seq, part, parts, data⟩))) 0 3 = bign 3 life.toNat := by
    rw [seg_app_left (by omega)]
    unfold Fr.body seg
    simp only [List.drop_zero, List.append_assoc]
    exact List.take_left' l1
  have s1 : seg (Fr.body ⟨life, era, seq, part, parts, data⟩ ++ three (CrcM.more 11994318 (Fr.body ⟨life, era, seq, part, parts, data⟩))) 3 3 = bign 3 era.toNat := by
    rw [seg_app_left (by omega)]
    unfold Fr.body seg
    simp only [List.append_assoc]
    rw [List.drop_left' l1]
    exact List.take_left' l2
  have s2 : seg (Fr.body ⟨life, era, seq, part, parts, data⟩ ++ three (CrcM.more 11994318 (Fr.body ⟨life, era, seq, part, parts, data⟩))) 6 4 = bign 4 seq.toNat := by
    rw [seg_app_left (by omega)]
    unfold Fr.body seg
    simp only [List.append_assoc]
    rw [← List.append_assoc, List.drop_left' (by rw [List.length_append]; omega)]
    exact List.take_left' l3
  have hd : ∀ k x, ([part.toNat, parts.toNat, data.length] : List Nat)[k]? = some x → (Fr.body ⟨life, era, seq, part, parts, data⟩ ++ three (CrcM.more 11994318 (Fr.body ⟨life, era, seq, part, parts, data⟩))).getD (10 + k) 0 = x := by
    intro k x hk
    have hk3 : k < 3 := by have := (List.getElem?_eq_some_iff.1 hk).1; simpa using this
    rw [List.getD_eq_getElem?_getD, List.getElem?_append_left (by omega)]
    unfold Fr.body
    simp only
    rw [List.getElem?_append_left (by simp [l1, l2, l3]; omega), List.getElem?_append_left (by simp [l1, l2, l3]; omega), List.getElem?_append_right (by simp [l1, l2, l3])]
    simp only [List.length_append, l1, l2, l3]
    rw [show 10 + k - (3 + 3 + 4) = k by omega, hk]
    rfl
  have d0 := hd 0 _ rfl
  have d1 := hd 1 _ rfl
  have d2 := hd 2 _ rfl
  simp only [Nat.reduceAdd, Nat.add_zero] at d0 d1 d2
  rw [s0, s1, s2, d0, d1, d2, n1, n2, n3]
  have s3 : seg (Fr.body ⟨life, era, seq, part, parts, data⟩ ++ three (CrcM.more 11994318 (Fr.body ⟨life, era, seq, part, parts, data⟩))) 13 data.length = data := by
    rw [seg_app_left (by omega)]
    unfold Fr.body seg
    simp only
    rw [List.append_assoc (_ ++ _), List.drop_left' (by simp [l1, l2, l3])]
    exact List.take_left' rfl
  rw [s3]
  congr <;> omega
theorem dec_enc {f : Fr} (h : f.ok = true) : decF (encF f).1 = (f, 0) := by
  have hE : encF f = (sealed f.body, 0) := if_pos h
  rw [hE]
  have hc := cand_enc h
  have h10 := ((Fr.ok_iff f).1 h).2.2.2.2.2.2.2.2.2.2
  have := decF_yes (b := sealed f.body) (by rw [sealed_len, Fr.body_len h10]) (by rw [hc]; exact h) (by rw [hc])
  rw [this, hc]
end
end Go.Proofs.Ytiggcpfmmgmncaa
