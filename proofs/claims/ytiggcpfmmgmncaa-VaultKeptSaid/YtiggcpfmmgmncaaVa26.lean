import Derived.Laws.IdiomStrings
import Derived.Lib.SlBytesConst
import Derived.Test.YtiggcpfmmgmncaaVa24
import Derived.Test.YtiggcpfmmgmncaaVa22
import Derived.Test.YtiggcpfmmgmncaaVa25
section
namespace Go.Proofs.Ytiggcpfmmgmncaa
open Go.ChangeShapes Go.WideShapes Go.ChangeAt Go.RowKit
set_option linter.unusedVariables false
set_option linter.unusedSimpArgs false

theorem takeF_local {S T : List (List Nat)} {i : Int} {n : Nat} (h : ∀ j : Nat, j < n → frD S (i + (j : Int)) = frD T (i + (j : Int))) : takeF S i n = takeF T i n := by
  induction n with
  | zero => rfl
  | succ n ih => unfold takeF; rw [ih (fun j hj => h j (by omega)), h n (by omega)]
theorem readF_local {S T : List (List Nat)} (hl : S.length = T.length) {a t : Nat} (h : ∀ i, a ≤ i → i < t → S[i]? = T[i]?) : readF S a t = readF T a t := by
  by_cases hat : a < t
  · have hf : ∀ j : Nat, a + j < t → frD S ((a : Int) + (j : Int)) = frD T ((a : Int) + (j : Int)) := fun j hj => by
      rw [show (a : Int) + (j : Int) = ((a + j : Nat) : Int) by omega]
      exact frD_eq hl (by rw [Int.toNat_natCast]; exact h (a + j) (by omega) hj)
    have h0 := hf 0 (by omega)
    rw [show (a : Int) + ((0 : Nat) : Int) = (a : Int) by omega] at h0
    unfold readF
    rw [h0]
    cases hfr : frD T a with
    | none => rfl
    | some f =>
      simp only
      by_cases hp : (t : Int) - (a : Int) < f.parts
      · rw [if_pos hp, if_pos hp]
      · have hok := (Fr.ok_iff f).1 (frD_some hfr).2.2.2
        rw [if_neg hp, if_neg hp, takeF_local (fun j hj => hf j (by omega))]
  · rw [readF_ge (by omega), readF_ge (by omega)]
theorem standF_local {S T : List (List Nat)} (hl : S.length = T.length) {p each odd : Nat} (h : ∀ i, p + odd * each ≤ i → i < p + odd * each + each → S[i]? = T[i]?) : standF S p each odd = standF T p each odd := by
  unfold standF
  rw [readF_local hl h]
structure Inv9 (S : List (List Nat)) (era life : Nat) (was : List Nat) : Prop where
  len : S.length = 20
  low : ∀ (i : Int) (f : Fr), frD S i = some f → f.life < (life : Int)
  cur : era = 0 → was = [] ∧ standF S 2 9 0 = none ∧ standF S 2 9 1 = none
  at_ : 0 < era → standF S 2 9 (era % 2) = some ((era : Int), was) ∧ (standF S 2 9 ((era + 1) % 2) = none ∨ ∃ m l, standF S 2 9 ((era + 1) % 2) = some (m, l) ∧ m < (era : Int))
def loaded (era : Nat) (was : List Nat) : Int × List Nat × Int := if era = 0 then (0, [], 11) else ((era : Int), was, 0)
theorem Inv9.load {S : List (List Nat)} {era life : Nat} {was : List Nat} (h : Inv9 S era life was) : loadS S 2 9 = loaded era was := by
  unfold loadS loaded
  by_cases h0 : era = 0
  · obtain ⟨_, e0, e1⟩ := h.cur h0
    rw [if_pos h0, e0, e1]
  · obtain ⟨e0, e1⟩ := h.at_ (by omega)
    rw [if_neg h0]
    rcases (by omega : era % 2 = 0 ∧ (era + 1) % 2 = 1 ∨ era % 2 = 1 ∧ (era + 1) % 2 = 0) with ⟨m0, m1⟩ | ⟨m0, m1⟩
    · rw [m0] at e0
      rw [m1] at e1
      rw [e0]
      rcases e1 with e1 | ⟨m, l, e1, hm⟩
      · rw [e1]
      · rw [e1]; simp only; rw [if_neg (by omega)]
    · rw [m0] at e0
      rw [m1] at e1
      rw [e0]
      rcases e1 with e1 | ⟨m, l, e1, hm⟩
      · rw [e1]
      · rw [e1]; simp only; rw [if_pos hm]
def Torn9 (S T : List (List Nat)) (P n life era : Nat) (b : List Nat) : Prop := T.length = S.length ∧ ∀ i, T[i]? = S[i]? ∨ (P ≤ i ∧ i < P + n ∧ T[i]? = some (sealed (piece (life : Int) (era : Int) 1 b n (i - P)).body))
theorem Inv9.step {S T : List (List Nat)} {era life : Nat} {was b : List Nat} (h : Inv9 S era life was) {n : Nat} (hn : partsN b.length = n) (hn9 : n ≤ 9) (hok : (piece (life : Int) ((era + 1 : Nat) : Int) 1 b n 0).ok = true)
    (ht : Torn9 S T (2 + (era + 1) % 2 * 9) n life (era + 1) b) : Inv9 T (era + 1) (life + 1) b ∨ Inv9 T era (life + 1) was := by
  obtain ⟨hl, hi⟩ := ht
  have hp := partsN_pos b.length
  obtain ⟨P, hP⟩ : ∃ P, 2 + (era + 1) % 2 * 9 = P := ⟨_, rfl⟩
  rw [hP] at hi
  have hP2 : P = 2 ∨ P = 11 := by omega
  have hlen := h.len
  have hlow : ∀ (i : Int) (f : Fr), frD T i = some f → f.life < ((life + 1 : Nat) : Int) := fun i f hf => by
    obtain ⟨h0, h1, h2, _⟩ := frD_some hf
    obtain ⟨k, rfl⟩ : ∃ k : Nat, i = (k : Int) := ⟨i.toNat, by omega⟩
    rcases hi k with e | ⟨e1, e2, e3⟩
    · rw [frD_eq hl (by simpa using e)] at hf
      have := h.low _ _ hf
      omega
    · have hk : k < T.length := by omega
      rw [List.getElem?_eq_getElem hk] at e3
      rw [frD_at hk, Option.some.inj e3, frB_enc ((piece_ok (by omega) (by omega)).trans hok)] at hf
      have := Option.some.inj hf
      rw [← this]
      show (life : Int) < _
      omega
  -- the other place
  have hoth : standF T 2 9 (era % 2) = standF S 2 9 (era % 2) := standF_local hl (fun i h1 h2 => by
    rcases hi i with e | ⟨e1, e2, e3⟩
    · exact e
    · exfalso; rcases (by omega : era % 2 = 0 ∧ (era + 1) % 2 = 1 ∨ era % 2 = 1 ∧ (era + 1) % 2 = 0) with ⟨m0, m1⟩ | ⟨m0, m1⟩ <;> rw [m0] at h1 h2 <;> rw [m1] at hP <;> omega)
  have hrd := readF_torn (tt := ((P + 9 : Nat) : Int)) hl hn (by omega) hok (by omega) (by omega) hi (fun i f _ _ hf => h.low i f hf)
  have hst : standF T 2 9 ((era + 1) % 2) = some (((era + 1 : Nat) : Int), b) ∨ standF T 2 9 ((era + 1) % 2) = none ∨ standF T 2 9 ((era + 1) % 2) = standF S 2 9 ((era + 1) % 2) := by
    unfold standF
    rw [hP]
    rcases hrd with e | e | e
    · left
      rw [e]
      simp only
      have e1 : (piece (life : Int) ((era + 1 : Nat) : Int) 1 b n 0).seq = 1 ∧ (piece (life : Int) ((era + 1 : Nat) : Int) 1 b n 0).era ≠ 0 ∧ (piece (life : Int) ((era + 1 : Nat) : Int) 1 b n 0).era % 2 = (((era + 1) % 2 : Nat) : Int) := ⟨rfl, by show ((era + 1 : Nat) : Int) ≠ 0; omega, by show ((era + 1 : Nat) : Int) % 2 = _; omega⟩
      rw [if_pos e1]; rfl
    · right; left; rw [e]
    · right; right; rw [e]
  have hm2 : (era + 1 + 1) % 2 = era % 2 := by omega
  rcases hst with e | e | e
  · left
    refine ⟨hl.trans hlen, hlow, fun h0 => absurd h0 (by omega), fun _ => ⟨e, ?_⟩⟩
    rw [hm2, hoth]
    by_cases h0 : era = 0
    · obtain ⟨_, e0, e1⟩ := h.cur h0
      left; subst h0; exact e0
    · right
      exact ⟨_, _, (h.at_ (by omega)).1, by omega⟩
  · right
    refine ⟨hl.trans hlen, hlow, fun h0 => ?_, fun h0 => ?_⟩
    · obtain ⟨c0, e0, e1⟩ := h.cur h0
      subst h0
      exact ⟨c0, by rw [show (0 : Nat) = 0 % 2 from rfl, hoth]; exact e0, e⟩
    · obtain ⟨e0, e1⟩ := h.at_ h0
      exact ⟨by rw [hoth]; exact e0, .inl e⟩
  · right
    refine ⟨hl.trans hlen, hlow, fun h0 => ?_, fun h0 => ?_⟩
    · obtain ⟨c0, e0, e1⟩ := h.cur h0
      subst h0
      exact ⟨c0, by rw [show (0 : Nat) = 0 % 2 from rfl, hoth]; exact e0, by rw [show (1 : Nat) = (0 + 1) % 2 from rfl, e]; exact e1⟩
    · obtain ⟨e0, e1⟩ := h.at_ h0
      exact ⟨by rw [hoth]; exact e0, by rw [e]; exact e1⟩
theorem Inv9.whole {S T : List (List Nat)} {era life : Nat} {was b : List Nat} (h : Inv9 S era life was) {n : Nat} (hn : partsN b.length = n) (hn9 : n ≤ 9) (hok : (piece (life : Int) ((era + 1 : Nat) : Int) 1 b n 0).ok = true)
    (ht : Torn9 S T (2 + (era + 1) % 2 * 9) n life (era + 1) b) (hw : ∀ j, j < n → T[2 + (era + 1) % 2 * 9 + j]? = some (sealed (piece (life : Int) ((era + 1 : Nat) : Int) 1 b n j).body)) : Inv9 T (era + 1) (life + 1) b := by
  have hlen := h.len
  have htl := ht.1
  have hr := readF_new (S := T) (P := 2 + (era + 1) % 2 * 9) (tt := ((2 + (era + 1) % 2 * 9 + 9 : Nat) : Int)) hn (by omega) hok (by omega) (by omega) hw
  have hst : standF T 2 9 ((era + 1) % 2) = some (((era + 1 : Nat) : Int), b) := by
    unfold standF
    rw [hr]
    simp only
    have e1 : (piece (life : Int) ((era + 1 : Nat) : Int) 1 b n 0).seq = 1 ∧ (piece (life : Int) ((era + 1 : Nat) : Int) 1 b n 0).era ≠ 0 ∧ (piece (life : Int) ((era + 1 : Nat) : Int) 1 b n 0).era % 2 = (((era + 1) % 2 : Nat) : Int) := ⟨rfl, by show ((era + 1 : Nat) : Int) ≠ 0; omega, by show ((era + 1 : Nat) : Int) % 2 = _; omega⟩
    rw [if_pos e1]; rfl
  rcases h.step hn hn9 hok ht with h1 | h1
  · exact h1
  · exfalso
    by_cases h0 : era = 0
    · obtain ⟨_, e0, e1⟩ := h1.cur h0
      subst h0
      rw [show (0 + 1) % 2 = 1 from rfl, e1] at hst
      cases hst
    · rcases (h1.at_ (by omega)).2 with e | ⟨m, l, e, hm⟩
      · rw [e] at hst; cases hst
      · rw [e] at hst
        have := Option.some.inj hst
        injection this with h2 h3
        omega
theorem cells_at {life era seq : Int} {b : List Nat} {n j : Nat} (h : j < n) : (cellsF life era seq b n n)[j]? = some (sealed (piece life era seq b n j).body) := by
  unfold cellsF
  rw [List.getElem?_map, List.getElem?_range h]; rfl
theorem cells_len (life era seq : Int) (b : List Nat) (n : Nat) : (cellsF life era seq b n n).length = n := by simp [cellsF]
end Go.Proofs.Ytiggcpfmmgmncaa
end
section
namespace Go.Proofs.Ytiggcpfmmgmncaa
open Go.ChangeShapes Go.WideShapes Go.ChangeAt Go.RowKit
set_option linter.unusedVariables false
set_option linter.unusedSimpArgs false

theorem cut_good {life era seq : Int} {b : List Nat} (h : (cutF life era seq b).2 = 0) : cutF life era seq b = (cellsF life era seq b (partsN b.length) (partsN b.length), 0) ∧ partsN b.length ≤ 255 ∧ (piece life era seq b (partsN b.length) 0).ok = true := by
  unfold cutF at *
  split at h
  · exact absurd h (by decide)
  · rename_i h1
    rw [if_neg h1]
    split at h
    · rename_i h2
      rw [if_pos h2]
      exact ⟨rfl, by omega, h2⟩
    · exact absurd h (by decide)
theorem cut_fits {life era seq : Int} {b : List Nat} (h : (cutF life era seq b).2 = 0) {m p : Nat} (hm : p + (cutF life era seq b).1.length ≤ m) : fitsF m (p : Int) (cutF life era seq b).1 = true := by
  obtain ⟨h1, h2, h3⟩ := cut_good h
  rw [h1] at hm ⊢
  simp only at hm ⊢
  rw [cells_len] at hm
  rw [fitsF_good (fun k hk => by
    rw [cells_len] at hk
    have e := cells_at (life := life) (era := era) (seq := seq) (b := b) hk
    rw [List.getElem?_eq_getElem (by rw [cells_len]; exact hk)] at e
    rw [Option.some.inj e, sealed_len, Fr.body_len (seg_le _ _ _)]), cells_len, Bool.and_eq_true]
  exact ⟨decide_eq_true (by omega), decide_eq_true (by omega)⟩
theorem cut_pos {life era seq : Int} {b : List Nat} (h : (cutF life era seq b).2 = 0) : 0 < (cutF life era seq b).1.length := by
  obtain ⟨h1, h2, h3⟩ := cut_good h
  rw [h1]
  simp only
  rw [cells_len]
  exact partsN_pos _
theorem Dv.write_fit {d : Dv} {p : Int} {cs : List (List Nat)} (hon : d.on = true) (hf : fitsF d.S.length p cs = true) (h0 : 0 < cs.length) :
    d.write p cs = ({ d.burnt with S := putK d.torn d.keep p.toNat cs cs.length d.S, writes := wrap64 (d.writes + 1) }, if d.torn = true then 9 else 0) := by
  unfold Dv.write
  rw [if_pos hon, if_pos hf, if_neg (by omega)]
def Sc.app (x : Sc) (d : Dv) (l : List Nat) : (Sc × Dv) × Int :=
  if x.dead = true ∨ d.on = false then ((x, d), 9)
  else if (cutF x.life x.era ((x.L.length + 1 : Nat) : Int) l).2 ≠ 0 then ((x, d), (cutF x.life x.era ((x.L.length + 1 : Nat) : Int) l).2)
  else if (x.t : Int) - (x.f : Int) - (x.used : Int) < (((cutF x.life x.era ((x.L.length + 1 : Nat) : Int) l).1.length : Nat) : Int) then ((x, d), 10)
  else if d.torn = true then (({ x with dead := true }, (d.write ((x.f + x.used : Nat) : Int) (cutF x.life x.era ((x.L.length + 1 : Nat) : Int) l).1).1), 9)
  else ((x.add l (cutF x.life x.era ((x.L.length + 1 : Nat) : Int) l).1.length, (d.write ((x.f + x.used : Nat) : Int) (cutF x.life x.era ((x.L.length + 1 : Nat) : Int) l).1).1), 0)
set_option maxHeartbeats 2000000 in
theorem sapp_any {B b g kc s c : Nat} {K A : Option Addr} {d : Dv} {R : List (RowS Nat)} {x : Sc} (rA : Option Addr) (rc_ : Nat) (l : List Nat) (w : World) (hd : DrA B w b g K kc d) (hs : ScA B w s b A c R x) (hB : B ≤ w.heap.size) (hlc : l.length ≤ rc_) (hcm : rc_ ≤ maxLen) (hl : l.length ≤ 100000) (hrs : SlF w b g rA (by8 l)) (ho : Oct l) (ht : x.t ≤ d.S.length) (hLn : x.L.length ≤ 900000) :
    Calls Try.prog 18 #[.pointer (some ⟨s, 0, none⟩), .slice rA l.length rc_] w fun e w' => e = .returned (.int .i64 (x.app d l).2) ∧ ∃ A' c' R', ScA B w' s b A' c' R' (x.app d l).1.1 ∧ DrA B w' b g K kc (x.app d l).1.2 ∧ ChgL (b :: g :: s :: (x.row A c).ownBlock.toList) w w' ∧
      (((x.app d l).1.1.row A' c').ownBlock = (x.row A c).ownBlock ∨ ∃ k, w.heap.size ≤ k ∧ ((x.app d l).1.1.row A' c').ownBlock = some k) := by
  cases hdead : x.dead with
  | true =>
    have e1 : x.app d l = ((x, d), 9) := by unfold Sc.app; rw [if_pos (Or.inl hdead)]
    rw [e1]
    refine (sapp_dead rA rc_ l w hd hs hB hlc hcm hl hrs ho hdead).mono ?_
    rintro e w' ⟨rfl, hb⟩
    exact ⟨rfl, A, c, R, hs.below hb, hd.below hb, ChgL.of_below hb, .inl rfl⟩
  | false =>
    cases hon : d.on with
    | false =>
      have e1 : x.app d l = ((x, d), 9) := by unfold Sc.app; rw [if_pos (Or.inr hon)]
      rw [e1]
      refine (sapp_off rA rc_ l w hd hs hB hlc hcm hl hrs ho hdead hon).mono ?_
      rintro e w' ⟨rfl, hb⟩
      exact ⟨rfl, A, c, R, hs.below hb, hd.below hb, ChgL.of_below hb, .inl rfl⟩
    | true =>
      have e0 : ¬ (x.dead = true ∨ d.on = false) := by rw [hdead, hon]; decide
      by_cases hcz : (cutF x.life x.era ((x.L.length + 1 : Nat) : Int) l).2 ≠ 0
      · have e1 : x.app d l = ((x, d), (cutF x.life x.era ((x.L.length + 1 : Nat) : Int) l).2) := by unfold Sc.app; rw [if_neg e0, if_pos hcz]
        rw [e1]
        refine (sapp_cut rA rc_ l w hd hs hB hlc hcm hl hrs ho hdead hon hcz).mono ?_
        rintro e w' ⟨rfl, hb⟩
        exact ⟨rfl, A, c, R, hs.below hb, hd.below hb, ChgL.of_below hb, .inl rfl⟩
      · have hcz0 : (cutF x.life x.era ((x.L.length + 1 : Nat) : Int) l).2 = 0 := Classical.not_not.1 hcz
        by_cases hroom : (x.t : Int) - (x.f : Int) - (x.used : Int) < (((cutF x.life x.era ((x.L.length + 1 : Nat) : Int) l).1.length : Nat) : Int)
        · have e1 : x.app d l = ((x, d), 10) := by unfold Sc.app; rw [if_neg e0, if_neg hcz, if_pos hroom]
          rw [e1]
          refine (sapp_full rA rc_ l w hd hs hB hlc hcm hl hrs ho hdead hon hcz0 hroom).mono ?_
          rintro e w' ⟨rfl, hb⟩
          exact ⟨rfl, A, c, R, hs.below hb, hd.below hb, ChgL.of_below hb, .inl rfl⟩
        · have hfit := cut_fits (m := d.S.length) (p := x.f + x.used) hcz0 (by omega)
          have hw := Dv.write_fit hon hfit (cut_pos hcz0)
          have hlen := cutF_len x.life x.era ((x.L.length + 1 : Nat) : Int) l
          cases ht : d.torn with
          | true =>
            have hw2 : (d.write ((x.f + x.used : Nat) : Int) (cutF x.life x.era ((x.L.length + 1 : Nat) : Int) l).1).2 = 9 := by rw [hw, ht]; rfl
            have e1 : x.app d l = (({ x with dead := true }, (d.write ((x.f + x.used : Nat) : Int) (cutF x.life x.era ((x.L.length + 1 : Nat) : Int) l).1).1), 9) := by unfold Sc.app; rw [if_neg e0, if_neg hcz, if_neg hroom, if_pos ht]
            rw [e1]
            refine (sapp_torn rA rc_ l w hd hs hB hlc hcm hl hrs ho hdead hon hcz0 hroom hw2 hlen hLn).mono ?_
            rintro e w' ⟨rfl, h1, h2, h3⟩
            exact ⟨rfl, A, c, R, h1, h2, h3, .inl rfl⟩
          | false =>
            have hw2 : (d.write ((x.f + x.used : Nat) : Int) (cutF x.life x.era ((x.L.length + 1 : Nat) : Int) l).1).2 = 0 := by rw [hw, ht]; rfl
            have e1 : x.app d l = ((x.add l (cutF x.life x.era ((x.L.length + 1 : Nat) : Int) l).1.length, (d.write ((x.f + x.used : Nat) : Int) (cutF x.life x.era ((x.L.length + 1 : Nat) : Int) l).1).1), 0) := by unfold Sc.app; rw [if_neg e0, if_neg hcz, if_neg hroom, if_neg (by rw [ht]; decide)]
            rw [e1]
            refine (sapp_go rA rc_ l w hd hs hB hlc hcm hl hrs ho hdead hon hcz0 hroom hw2 hlen hLn).mono ?_
            rintro e w' ⟨rfl, A', c', R', h1, h2, h3, h4⟩
            exact ⟨rfl, A', c', R', h1, h2, h3, h4⟩
theorem cell_blk {w w1 : World} {b i : Nat} (h : w1.heap[b]? = w.heap[b]?) : w1.cell? ⟨b, i, none⟩ = w.cell? ⟨b, i, none⟩ := by
  unfold World.cell?
  simp only [h]
def SlX (l : List Nat) (w : World) (A : Option Addr) (xs : List Value) : Prop := Sl w A xs ∧ ∀ p, A = some p → xs ≠ [] → p.block < w.heap.size ∧ p.block ∉ l
section
variable {l m : List Nat} {w w1 : World} {A : Option Addr} {xs : List Value}
theorem SlX.nil : SlX l w none [] := ⟨Sl.nil, fun p h => by cases h⟩
theorem SlX.chg (h : SlX l w A xs) (hc : ChgL l w w1) (hm : ∀ x ∈ m, x ∈ l ∨ w.heap.size ≤ x) : SlX m w1 A xs := by
  by_cases hne : xs = []
  · subst hne
    exact ⟨fun h0 => absurd rfl h0, fun p _ h0 => absurd rfl h0⟩
  · obtain ⟨b, o, hA, hcs⟩ := h.1 hne
    obtain ⟨hlt, hn⟩ := h.2 _ hA hne
    refine ⟨fun _ => ⟨b, o, hA, fun i u hu => ?_⟩, fun p hp _ => ?_⟩
    · rw [← hcs i u hu]
      exact cell_blk (hc.block b hlt hn)
    · rw [hA] at hp
      injection hp with hp
      subst hp
      exact ⟨Nat.lt_of_lt_of_le hlt hc.size, fun hx => (hm _ hx).elim hn (fun h9 => absurd hlt (by omega))⟩
theorem SlX.below (h : SlX l w A xs) (hb : Below w.heap.size w w1) : SlX l w1 A xs := h.chg (ChgL.of_below hb) (fun x hx => .inl hx)
theorem SlX.sl (h : SlX l w A xs) : Sl w A xs := h.1
theorem SlX.slf {b g : Nat} (h : SlX l w A xs) (hb : b ∈ l) (hg : g ∈ l) : SlF w b g A xs := ⟨h.1, fun hne p hp => by
  obtain ⟨_, hn⟩ := h.2 p hp hne
  exact ⟨fun e => hn (e ▸ hb), fun e => hn (e ▸ hg)⟩⟩
theorem SlX.old {w0 : World} (h : Sl w A xs) (hlt : ∀ k o, A = some ⟨k, o, none⟩ → xs ≠ [] → k < w0.heap.size) (hsz : w0.heap.size ≤ w.heap.size) (hl : ∀ x ∈ l, w0.heap.size ≤ x) : SlX l w A xs := by
  refine ⟨h, fun p hp hne => ?_⟩
  obtain ⟨b, o, hA, _⟩ := h hne
  rw [hA] at hp
  injection hp with hp
  subst hp
  have := hlt b o hA hne
  exact ⟨by show b < _; omega, fun hx => absurd (hl _ hx) (by show ¬ _ ≤ b; omega)⟩
theorem SlX.own {B e size n c : Nat} (ho : w.ownsRow B e size (.slice A n c) n xs) (hl : ∀ x ∈ l, x < B) : SlX l w A xs := by
  refine ⟨Sl.of_own ho, fun p hp hne => ?_⟩
  obtain ⟨b, o, hA, hcs⟩ := Sl.of_own ho hne
  have hge := own_ge ho
  rw [hA] at hp
  injection hp with hp
  subst hp
  rcases ho.2 with ⟨hv, _⟩ | ⟨k, cap, cur, hv, hk2, hh, _⟩
  · injection hv with hv _ _
    rw [hA] at hv; cases hv
  · injection hv with hv _ _
    rw [hA] at hv
    injection hv with hv
    injection hv with hv _
    subst hv
    exact ⟨(Array.getElem?_eq_some_iff.1 hh).1, fun hx => by
      have h1 : b < B := hl _ hx
      have hge2 : B ≤ b := hge b (by rw [hA]; rfl)
      omega⟩
end
end Go.Proofs.Ytiggcpfmmgmncaa
end
