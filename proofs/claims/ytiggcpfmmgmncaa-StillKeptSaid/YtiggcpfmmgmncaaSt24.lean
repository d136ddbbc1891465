import Derived.Test.YtiggcpfmmgmncaaSt21
section
namespace Go.Proofs.Ytiggcpfmmgmncaa
open Go.ChangeShapes Go.WideShapes Go.ChangeAt Go.RowKit
set_option linter.unusedVariables false
set_option linter.unusedSimpArgs false

theorem takeF_local {S T : List (List Nat)} {i : Int} {n : Nat} (h : ∀ j : Nat, j < n → frD S (i + (j : Int)) = frD T (i + (j : Int))) : takeF S i n = takeF T i n := by
  induction n with
  | zero => rfl
  | succ n ih => unfold takeF; rw [ih (fun j hj => h j (by omega)), h n (by omega)]
theorem readF_local {S T : List (List Nat)} (hl : S.length = T.length) {a t : Nat} (h : ∀ i, a ≤ i → i < t → S[i]? = T[i]?) : readF S a t = readF T a t := by
  by_cases hat : a < t
  · have hf : ∀ j : Nat, a + j < t → frD S ((a : Int) + (j : Int)) = frD T ((a : Int) + (j : Int)) := fun j hj => by
      rw [show (a : Int) + (j : Int) = ((a + j : Nat) : Int) by omega]
      exact frD_eq hl (by rw [Int.toNat_natCast]; exact h (a + j) (by omega) hj)
    have h0 := hf 0 (by omega)
    rw [show (a : Int) + ((0 : Nat) : Int) = (a : Int) by omega] at h0
    unfold readF
    rw [h0]
    cases hfr : frD T a with
    | none => rfl
    | some f =>
      simp only
      by_cases hp : (t : Int) - (a : Int) < f.parts
      · rw [if_pos hp, if_pos hp]
      · have hok := (Fr.ok_iff f).1 (frD_some hfr).2.2.2
        rw [if_neg hp, if_neg hp, takeF_local (fun j hj => hf j (by omega))]
  · rw [readF_ge (by omega), readF_ge (by omega)]
theorem standF_local {S T : List (List Nat)} (hl : S.length = T.length) {p each odd : Nat} (h : ∀ i, p + odd * each ≤ i → i < p + odd * each + each → S[i]? = T[i]?) : standF S p each odd = standF T p each odd := by
  unfold standF
  rw [readF_local hl h]
structure Inv9 (S : List (List Nat)) (era life : Nat) (was : List Nat) : Prop where
  len : S.length = 20
  low : ∀ (i : Int) (f : Fr), frD S i = some f → f.life < (life : Int)
  cur : era = 0 → was = [] ∧ standF S 2 9 0 = none ∧ standF S 2 9 1 = none
  at_ : 0 < era → standF S 2 9 (era % 2) = some ((era : Int), was) ∧ (standF S 2 9 ((era + 1) % 2) = none ∨ ∃ m l, standF S 2 9 ((era + 1) % 2) = some (m, l) ∧ m < (era : Int))
def loaded (era : Nat) (was : List Nat) : Int × List Nat × Int := if era = 0 then (0, [], 11) else ((era : Int), was, 0)
theorem Inv9.load {S : List (List Nat)} {era life : Nat} {was : List Nat} (h : Inv9 S era life was) : loadS S 2 9 = loaded era was := by
  unfold loadS loaded
  by_cases h0 : era = 0
  · obtain ⟨_, e0, e1⟩ := h.cur h0
    rw [if_pos h0, e0, e1]
  · obtain ⟨e0, e1⟩ := h.at_ (by omega)
    rw [if_neg h0]
    rcases (by omega : era % 2 = 0 ∧ (era + 1) % 2 = 1 ∨ era % 2 = 1 ∧ (era + 1) % 2 = 0) with ⟨m0, m1⟩ | ⟨m0, m1⟩
    · rw [m0] at e0
      rw [m1] at e1
      rw [e0]
      rcases e1 with e1 | ⟨m, l, e1, hm⟩
      · rw [e1]
      · rw [e1]; simp only; rw [if_neg (by omega)]
    · rw [m0] at e0
      rw [m1] at e1
      rw [e0]
      rcases e1 with e1 | ⟨m, l, e1, hm⟩
      · rw [e1]
      · rw [e1]; simp only; rw [if_pos hm]
def Torn9 (S T : List (List Nat)) (P n life era : Nat) (b : List Nat) : Prop := T.length = S.length ∧ ∀ i, T[i]? = S[i]? ∨ (P ≤ i ∧ i < P + n ∧ T[i]? = some (sealed (piece (life : Int) (era : Int) 1 b n (i - P)).body))
theorem Inv9.step {S T : List (List Nat)} {era life : Nat} {was b : List Nat} (h : Inv9 S era life was) {n : Nat} (hn : partsN b.length = n) (hn9 : n ≤ 9) (hok : (piece (life : Int) ((era + 1 : Nat) : Int) 1 b n 0).ok = true)
    (ht : Torn9 S T (2 + (era + 1) % 2 * 9) n life (era + 1) b) : Inv9 T (era + 1) (life + 1) b ∨ Inv9 T era (life + 1) was := by
  obtain ⟨hl, hi⟩ := ht
  have hp := partsN_pos b.length
  obtain ⟨P, hP⟩ : ∃ P, 2 + (era + 1) % 2 * 9 = P := ⟨_, rfl⟩
  rw [hP] at hi
  have hP2 : P = 2 ∨ P = 11 := by omega
  have hlen := h.len
  have hlow : ∀ (i : Int) (f : Fr), frD T i = some f → f.life < ((life + 1 : Nat) : Int) := fun i f hf => by
    obtain ⟨h0, h1, h2, _⟩ := frD_some hf
    obtain ⟨k, rfl⟩ : ∃ k : Nat, i = (k : Int) := ⟨i.toNat, by omega⟩
    rcases hi k with e | ⟨e1, e2, e3⟩
    · rw [frD_eq hl (by simpa using e)] at hf
      have := h.low _ _ hf
      omega
    · have hk : k < T.length := by omega
      rw [List.getElem?_eq_getElem hk] at e3
      rw [frD_at hk, Option.some.inj e3, frB_enc ((piece_ok (by omega) (by omega)).trans hok)] at hf
      have := Option.some.inj hf
      rw [← this]
      show (life : Int) < _
      omega
  -- the other place
  have hoth : standF T 2 9 (era % 2) = standF S 2 9 (era % 2) := standF_local hl (fun i h1 h2 => by
    rcases hi i with e | ⟨e1, e2, e3⟩
    · exact e
    · exfalso; rcases (by omega : era % 2 = 0 ∧ (era + 1) % 2 = 1 ∨ era % 2 = 1 ∧ (era + 1) % 2 = 0) with ⟨m0, m1⟩ | ⟨m0, m1⟩ <;> rw [m0] at h1 h2 <;> rw [m1] at hP <;> omega)
  have hrd := readF_torn (tt := ((P + 9 : Nat) : Int)) hl hn (by omega) hok (by omega) (by omega) hi (fun i f _ hf => h.low i f hf)
  have hst : standF T 2 9 ((era + 1) % 2) = some (((era + 1 : Nat) : Int), b) ∨ standF T 2 9 ((era + 1) % 2) = none ∨ standF T 2 9 ((era + 1) % 2) = standF S 2 9 ((era + 1) % 2) := by
    unfold standF
    rw [hP]
    rcases hrd with e | e | e
    · left
      rw [e]
      simp only
      have e1 : (piece (life : Int) ((era + 1 : Nat) : Int) 1 b n 0).seq = 1 ∧ (piece (life : Int) ((era + 1 : Nat) : Int) 1 b n 0).era ≠ 0 ∧ (piece (life : Int) ((era + 1 : Nat) : Int) 1 b n 0).era % 2 = (((era + 1) % 2 : Nat) : Int) := ⟨rfl, by show ((era + 1 : Nat) : Int) ≠ 0; omega, by show ((era + 1 : Nat) : Int) % 2 = _; omega⟩
      rw [if_pos e1]; rfl
    · right; left; rw [e]
    · right; right; rw [e]
  have hm2 : (era + 1 + 1) % 2 = era % 2 := by omega
  rcases hst with e | e | e
  · left
    refine ⟨hl.trans hlen, hlow, fun h0 => absurd h0 (by omega), fun _ => ⟨e, ?_⟩⟩
    rw [hm2, hoth]
    by_cases h0 : era = 0
    · obtain ⟨_, e0, e1⟩ := h.cur h0
      left; subst h0; exact e0
    · right
      exact ⟨_, _, (h.at_ (by omega)).1, by omega⟩
  · right
    refine ⟨hl.trans hlen, hlow, fun h0 => ?_, fun h0 => ?_⟩
    · obtain ⟨c0, e0, e1⟩ := h.cur h0
      subst h0
      exact ⟨c0, by rw [show (0 : Nat) = 0 % 2 from rfl, hoth]; exact e0, e⟩
    · obtain ⟨e0, e1⟩ := h.at_ h0
      exact ⟨by rw [hoth]; exact e0, .inl e⟩
  · right
    refine ⟨hl.trans hlen, hlow, fun h0 => ?_, fun h0 => ?_⟩
    · obtain ⟨c0, e0, e1⟩ := h.cur h0
      subst h0
      exact ⟨c0, by rw [show (0 : Nat) = 0 % 2 from rfl, hoth]; exact e0, by rw [show (1 : Nat) = (0 + 1) % 2 from rfl, e]; exact e1⟩
    · obtain ⟨e0, e1⟩ := h.at_ h0
      exact ⟨by rw [hoth]; exact e0, by rw [e]; exact e1⟩
theorem Inv9.whole {S T : List (List Nat)} {era life : Nat} {was b : List Nat} (h : Inv9 S era life was) {n : Nat} (hn : partsN b.length = n) (hn9 : n ≤ 9) (hok : (piece (life : Int) ((era + 1 : Nat) : Int) 1 b n 0).ok = true)
    (ht : Torn9 S T (2 + (era + 1) % 2 * 9) n life (era + 1) b) (hw : ∀ j, j < n → T[2 + (era + 1) % 2 * 9 + j]? = some (sealed (piece (life : Int) ((era + 1 : Nat) : Int) 1 b n j).body)) : Inv9 T (era + 1) (life + 1) b := by
  have hlen := h.len
  have htl := ht.1
  have hr := readF_new (S := T) (P := 2 + (era + 1) % 2 * 9) (tt := ((2 + (era + 1) % 2 * 9 + 9 : Nat) : Int)) hn (by omega) hok (by omega) (by omega) hw
  have hst : standF T 2 9 ((era + 1) % 2) = some (((era + 1 : Nat) : Int), b) := by
    unfold standF
    rw [hr]
    simp only
    have e1 : (piece (life : Int) ((era + 1 : Nat) : Int) 1 b n 0).seq = 1 ∧ (piece (life : Int) ((era + 1 : Nat) : Int) 1 b n 0).era ≠ 0 ∧ (piece (life : Int) ((era + 1 : Nat) : Int) 1 b n 0).era % 2 = (((era + 1) % 2 : Nat) : Int) := ⟨rfl, by show ((era + 1 : Nat) : Int) ≠ 0; omega, by show ((era + 1 : Nat) : Int) % 2 = _; omega⟩
    rw [if_pos e1]; rfl
  rcases h.step hn hn9 hok ht with h1 | h1
  · exact h1
  · exfalso
    by_cases h0 : era = 0
    · obtain ⟨_, e0, e1⟩ := h1.cur h0
      subst h0
      rw [show (0 + 1) % 2 = 1 from rfl, e1] at hst
      cases hst
    · rcases (h1.at_ (by omega)).2 with e | ⟨m, l, e, hm⟩
      · rw [e] at hst; cases hst
      · rw [e] at hst
        have := Option.some.inj hst
        injection this with h2 h3
        omega
theorem cells_at {life era seq : Int} {b : List Nat} {n j : Nat} (h : j < n) : (cellsF life era seq b n n)[j]? = some (sealed (piece life era seq b n j).body) := by
  unfold cellsF
  rw [List.getElem?_map, List.getElem?_range h]; rfl
theorem cells_len (life era seq : Int) (b : List Nat) (n : Nat) : (cellsF life era seq b n n).length = n := by simp [cellsF]
theorem save9 {d : Dv} {era life : Nat} {was b : List Nat} (h : Inv9 d.S era life was) (hon : d.on = true) (hb : b.length ≤ 700) (he : era ≤ 1000) (hl : 1 ≤ life) (hl2 : life ≤ 1000) :
    ∃ n, partsN b.length = n ∧ n ≤ 9 ∧ (piece (life : Int) ((era + 1 : Nat) : Int) 1 b n 0).ok = true ∧ ∃ T z, d.save 2 9 (life : Int) ((era + 1 : Nat) : Int) b = ({ d.burnt with S := T, writes := z }, if d.torn = true then 9 else 0) ∧
      Torn9 d.S T (2 + (era + 1) % 2 * 9) n life (era + 1) b ∧ (d.torn = false → ∀ j, j < n → T[2 + (era + 1) % 2 * 9 + j]? = some (sealed (piece (life : Int) ((era + 1 : Nat) : Int) 1 b n j).body)) := by
  obtain ⟨n, hn⟩ : ∃ n, partsN b.length = n := ⟨_, rfl⟩
  have hp := partsN_pos b.length
  have hn9 : n ≤ 9 := by rw [← hn]; unfold partsN; omega
  have hok : (piece (life : Int) ((era + 1 : Nat) : Int) 1 b n 0).ok = true := by
    rw [Fr.ok_iff]
    have := seg_le b (80 * 0) 80
    refine ⟨?_, ?_, ?_, ?_, ?_, ?_, ?_, ?_, ?_, ?_, this⟩ <;> simp only [piece] <;> omega
  have hc : cutF (life : Int) ((era + 1 : Nat) : Int) 1 b = (cellsF (life : Int) ((era + 1 : Nat) : Int) 1 b n n, 0) := by
    unfold cutF
    rw [hn, if_neg (by omega), if_pos hok]
  have hlast : ¬ ((era + 1 : Nat) : Int) ≤ (loadS d.S 2 9).1 := by
    rw [h.load]
    unfold loaded
    split
    · show ¬ ((era + 1 : Nat) : Int) ≤ 0; omega
    · show ¬ ((era + 1 : Nat) : Int) ≤ (era : Int); omega
  obtain ⟨P, hP⟩ : ∃ P, 2 + (era + 1) % 2 * 9 = P := ⟨_, rfl⟩
  have hP2 : P = 2 ∨ P = 11 := by omega
  have hlen := h.len
  have hfit : fitsF d.S.length (P : Int) (cellsF (life : Int) ((era + 1 : Nat) : Int) 1 b n n) = true := by
    rw [fitsF_good (fun k hk => by
      rw [cells_len] at hk
      have e := cells_at (life := (life : Int)) (era := ((era + 1 : Nat) : Int)) (seq := 1) (b := b) hk
      rw [List.getElem?_eq_getElem (by rw [cells_len]; exact hk)] at e
      rw [Option.some.inj e, sealed_len, Fr.body_len (seg_le _ _ _)]), cells_len, hlen, Bool.and_eq_true]
    exact ⟨decide_eq_true (by omega), decide_eq_true (by omega)⟩
  refine ⟨n, hn, hn9, hok, putK d.torn d.keep P (cellsF (life : Int) ((era + 1 : Nat) : Int) 1 b n n) n d.S, wrap64 (d.writes + 1), ?_, ?_, ?_⟩
  · unfold Dv.save
    rw [if_neg hlast, hc]
    simp only [cells_len]
    rw [if_neg (by decide), if_neg (by omega), Int.toNat_natCast, hP]
    unfold Dv.write
    rw [if_pos hon, if_pos hfit, cells_len, if_neg (by omega), Int.toNat_natCast]
  · rw [hP]
    refine ⟨putK_len n, fun i => ?_⟩
    rcases putK_or (torn := d.torn) (keep := d.keep) (p := P) (cs := cellsF (life : Int) ((era + 1 : Nat) : Int) 1 b n n) (S := d.S) n (by rw [cells_len]; exact Nat.le_refl _) i with e | ⟨e1, e2, e3⟩
    · exact .inl e
    · refine .inr ⟨e1, e2, ?_⟩
      rw [e3 (by omega)]
      exact cells_at (by omega)
  · intro ht j hj
    rw [hP, ht, putK_in n (by rw [cells_len]; exact Nat.le_refl _) (P + j) (by omega) (by omega) (by omega), show P + j - P = j by omega]
    exact cells_at hj
theorem inv9_new : Inv9 (Dv.new 20).S 0 1 [] := by
  refine ⟨by simp [Dv.new], fun i f h => ?_, fun _ => ⟨rfl, ?_, ?_⟩, fun h => absurd h (by decide)⟩
  · rw [frD_new] at h; cases h
  · unfold standF; rw [readF_no (frD_new 20 _)]
  · unfold standF; rw [readF_no (frD_new 20 _)]
end Go.Proofs.Ytiggcpfmmgmncaa
end
