import Derived.Laws.IdiomStrings
import Derived.Lib.SlBytesConst
import Derived.Test.YtiggcpfmmgmncaaVp22
import Derived.Test.YtiggcpfmmgmncaaVp20
import Derived.Test.YtiggcpfmmgmncaaVp23
set_option maxHeartbeats 16000000
set_option maxRecDepth 100000
set_option linter.unusedVariables false
set_option linter.unusedSimpArgs false
namespace Go.Proofs.Ytiggcpfmmgmncaa
open Go.ChangeShapes Go.WideShapes Go.ChangeAt Go.RowKit
section
theorem takeF_local {S T : List (List Nat)} {i : Int} {n : Nat} (h : ∀ j : Nat, j < n → frD S (i + (j : Int)) = frD T (i + (j : Int))) : takeF S i n = takeF T i n := by
  induction n with
  | zero => rfl
  | succ n ih => unfold takeF; rw [ih (fun j hj => h j (by omega)), h n (by omega)]
theorem readF_local {S T : List (List Nat)} (hl : S.length = T.length) {a t : Nat} (h : ∀ i, a ≤ i → i < t → S[i]? = T[i]?) : readF S a t = readF T a t := by
  by_cases hat : a < t
  · have hf : ∀ j : Nat, a + j < t → frD S ((a : Int) + (j : Int)) = frD T ((a : Int) + (j : Int)) := fun j hj => by
      rw [show (a : Int) + (j : Int) = ((a + j : Nat) : Int) by omega]
      exact frD_eq hl (by rw [Int.toNat_natCast]; exact h (a + j) (by omega) hj)
    have h0 := hf 0 (by omega)
    rw [show (a : Int) + ((0 : Nat) : Int) = (a : Int) by omega] at h0
    unfold readF
    rw [h0]
    cases hfr : frD T a with
    | none => rfl
    | some f =>
      simp only
      by_cases hp : (t : Int) - (a : Int) < f.parts
      · rw [if_pos hp, if_pos hp]
      · have hok := (Fr.ok_iff f).1 (frD_some hfr).2.2.2
        rw [if_neg hp, if_neg hp, takeF_local (fun j hj => hf j (by omega))]
  · rw [readF_ge (by omega), readF_ge (by omega)]
theorem standF_local {S T : List (List Nat)} (hl : S.length = T.length) {p each odd : Nat} (h : ∀ i, p + odd * each ≤ i → i < p + odd * each + each → S[i]? = T[i]?) : standF S p each odd = standF T p each odd := by
  unfold standF
  rw [readF_local hl h]
structure Inv9 (S : List (List Nat)) (era life : Nat) (was : List Nat) : Prop where
  len : S.length = 20
  low : ∀ (i : Int) (f : Fr), frD S i = some f → f.life < (life : Int)
  cur : era = 0 → was = [] ∧ standF S 2 9 0 = none ∧ standF S 2 9 1 = none
  at_ : 0 < era → standF S 2 9 (era % 2) = some ((era : Int), was) ∧ (standF S 2 9 ((era + 1) % 2) = none ∨ ∃ m l, standF S 2 9 ((era + 1) % 2) = some (m, l) ∧ m < (era : Int))
def Torn9 (S T : List (List Nat)) (P n life era : Nat) (b : List Nat) : Prop := T.length = S.length ∧ ∀ i, T[i]? = S[i]? ∨ (P ≤ i ∧ i < P + n ∧ T[i]? = some (sealed (piece (life : Int) (era : Int) 1 b n (i - P)).body))
theorem Inv9.step {S T : List (List Nat)} {era life : Nat} {was b : List Nat} (h : Inv9 S era life was) {n : Nat} (hn : partsN b.length = n) (hn9 : n ≤ 9) (hok : (piece (life : Int) ((era + 1 : Nat) : Int) 1 b n 0).ok = true)
    (ht : Torn9 S T (2 + (era + 1) % 2 * 9) n life (era + 1) b) : Inv9 T (era + 1) (life + 1) b ∨ Inv9 T era (life + 1) was := by
  obtain ⟨hl, hi⟩ := ht
  have hp := partsN_pos b.length
  obtain ⟨P, hP⟩ : ∃ P, 2 + (era + 1) % 2 * 9 = P := ⟨_, rfl⟩
  rw [hP] at hi
  have hP2 : P = 2 ∨ P = 11 := by omega
  have hlen := h.len
  have hlow : ∀ (i : Int) (f : Fr), frD T i = some f → f.life < ((life + 1 : Nat) : Int) := fun i f hf => by
    obtain ⟨h0, h1, h2, _⟩ := frD_some hf
    obtain ⟨k, rfl⟩ : ∃ k : Nat, i = (k : Int) := ⟨i.toNat, by omega⟩
    rcases hi k with e | ⟨e1, e2, e3⟩
    · rw [frD_eq hl (by simpa using e)] at hf
      have := h.low _ _ hf
      omega
    · have hk : k < T.length := by omega
      rw [List.getElem?_eq_getElem hk] at e3
      rw [frD_at hk, Option.some.inj e3, frB_enc ((piece_ok (by omega) (by omega)).trans hok)] at hf
      have := Option.some.inj hf
      rw [← this]
      show (life : Int) < _
      omega
  -- the other place
  have hoth : standF T 2 9 (era % 2) = standF S 2 9 (era % 2) := standF_local hl (fun i h1 h2 => by
    rcases hi i with e | ⟨e1, e2, e3⟩
    · exact e
    · exfalso; rcases (by omega : era % 2 = 0 ∧ (era + 1) % 2 = 1 ∨ era % 2 = 1 ∧ (era + 1) % 2 = 0) with ⟨m0, m1⟩ | ⟨m0, m1⟩ <;> rw [m0] at h1 h2 <;> rw [m1] at hP <;> omega)
  have hrd := readF_torn (tt := ((P + 9 : Nat) : Int)) hl hn (by omega) hok (by omega) (by omega) hi (fun i f _ _ hf => h.low i f hf)
  have hst : standF T 2 9 ((era + 1) % 2) = some (((era + 1 : Nat) : Int), b) ∨ standF T 2 9 ((era + 1) % 2) = none ∨ standF T 2 9 ((era + 1) % 2) = standF S 2 9 ((era + 1) % 2) := by
    unfold standF
    rw [hP]
    rcases hrd with e | e | e
    · left
      rw [e]
      simp only
      have e1 : (piece (life : Int) ((era + 1 : Nat) : Int) 1 b n 0).seq = 1 ∧ (piece (life : Int) ((era + 1 : Nat) : Int) 1 b n 0).era ≠ 0 ∧ (piece (life : Int) ((era + 1 : Nat) : Int) 1 b n 0).era % 2 = (((era + 1) % 2 : Nat) : Int) := ⟨rfl, by show ((era + 1 : Nat) : Int) ≠ 0; omega, by show ((era + 1 : Nat) : Int) % 2 = _; omega⟩
      rw [if_pos e1]; rfl
    · right; left; rw [e]
    · right; right; rw [e]
  have hm2 : (era + 1 + 1) % 2 = era % 2 := by omega
  rcases hst with e | e | e
  · left
    refine ⟨hl.trans hlen, hlow, fun h0 => absurd h0 (by omega), fun _ => ⟨e, ?_⟩⟩
    rw [hm2, hoth]
    by_cases h0 : era = 0
    · obtain ⟨_, e0, e1⟩ := h.cur h0
      left; subst h0; exact e0
    · right
      exact ⟨_, _, (h.at_ (by omega)).1, by omega⟩
  · right
    refine ⟨hl.trans hlen, hlow, fun h0 => ?_, fun h0 => ?_⟩
    · obtain ⟨c0, e0, e1⟩ := h.cur h0
      subst h0
      exact ⟨c0, by rw [show (0 : Nat) = 0 % 2 from rfl, hoth]; exact e0, e⟩
    · obtain ⟨e0, e1⟩ := h.at_ h0
      exact ⟨by rw [hoth]; exact e0, .inl e⟩
  · right
    refine ⟨hl.trans hlen, hlow, fun h0 => ?_, fun h0 => ?_⟩
    · obtain ⟨c0, e0, e1⟩ := h.cur h0
      subst h0
      exact ⟨c0, by rw [show (0 : Nat) = 0 % 2 from rfl, hoth]; exact e0, by rw [show (1 : Nat) = (0 + 1) % 2 from rfl, e]; exact e1⟩
    · obtain ⟨e0, e1⟩ := h.at_ h0
      exact ⟨by rw [hoth]; exact e0, by rw [e]; exact e1⟩
theorem Inv9.whole {S T : List (List Nat)} {era life : Nat} {was b : List Nat} (h : Inv9 S era life was) {n : Nat} (hn : partsN b.length = n) (hn9 : n ≤ 9) (hok : (piece (life : Int) ((era + 1 : Nat) : Int) 1 b n 0).ok = true)
    (ht : Torn9 S T (2 + (era + 1) % 2 * 9) n life (era + 1) b) (hw : ∀ j, j < n → T[2 + (era + 1) % 2 * 9 + j]? = some (sealed (piece (life : Int) ((era + 1 : Nat) : Int) 1 b n j).body)) : Inv9 T (era + 1) (life + 1) b := by
  have hlen := h.len
  have htl := ht.1
  have hr := readF_new (S := T) (P := 2 + (era + 1) % 2 * 9) (tt := ((2 + (era + 1) % 2 * 9 + 9 : Nat) : Int)) hn (by omega) hok (by omega) (by omega) hw
  have hst : standF T 2 9 ((era + 1) % 2) = some (((era + 1 : Nat) : Int), b) := by
    unfold standF
    rw [hr]
    simp only
    have e1 : (piece (life : Int) ((era + 1 : Nat) : Int) 1 b n 0).seq = 1 ∧ (piece (life : Int) ((era + 1 : Nat) : Int) 1 b n 0).era ≠ 0 ∧ (piece (life : Int) ((era + 1 : Nat) : Int) 1 b n 0).era % 2 = (((era + 1) % 2 : Nat) : Int) := ⟨rfl, by show ((era + 1 : Nat) : Int) ≠ 0; omega, by show ((era + 1 : Nat) : Int) % 2 = _; omega⟩
    rw [if_pos e1]; rfl
  rcases h.step hn hn9 hok ht with h1 | h1
  · exact h1
  · exfalso
    by_cases h0 : era = 0
    · obtain ⟨_, e0, e1⟩ := h1.cur h0
      subst h0
      rw [show (0 + 1) % 2 = 1 from rfl, e1] at hst
      cases hst
    · rcases (h1.at_ (by omega)).2 with e | ⟨m, l, e, hm⟩
      · rw [e] at hst; cases hst
      · rw [e] at hst
        have := Option.some.inj hst
        injection this with h2 h3
        omega
theorem cells_at {life era seq : Int} {b : List Nat} {n j : Nat} (h : j < n) : (cellsF life era seq b n n)[j]? = some (sealed (piece life era seq b n j).body) := by
  unfold cellsF
  rw [List.getElem?_map, List.getElem?_range h]; rfl
theorem cells_len (life era seq : Int) (b : List Nat) (n : Nat) : (cellsF life era seq b n n).length = n := by simp [cellsF]
end
section
theorem cut_good {life era seq : Int} {b : List Nat} (h : (cutF life era seq b).2 = 0) : cutF life era seq b = (cellsF life era seq b (partsN b.length) (partsN b.length), 0) ∧ partsN b.length ≤ 255 ∧ (piece life era seq b (partsN b.length) 0).ok = true := by
  unfold cutF at *
  split at h
  · exact absurd h (by decide)
  · rename_i h1
    rw [if_neg h1]
    split at h
    · rename_i h2
      rw [if_pos h2]
      exact ⟨rfl, by omega, h2⟩
    · exact absurd h (by decide)
theorem cut_fits {life era seq : Int} {b : List Nat} (h : (cutF life era seq b).2 = 0) {m p : Nat} (hm : p + (cutF life era seq b).1.length ≤ m) : fitsF m (p : Int) (cutF life era seq b).1 = true := by
  obtain ⟨h1, h2, h3⟩ := cut_good h
  rw [h1] at hm ⊢
  simp only at hm ⊢
  rw [cells_len] at hm
  rw [fitsF_good (fun k hk => by
    rw [cells_len] at hk
    have e := cells_at (life := life) (era := era) (seq := seq) (b := b) hk
    rw [List.getElem?_eq_getElem (by rw [cells_len]; exact hk)] at e
    rw [Option.some.inj e, sealed_len, Fr.body_len (seg_le _ _ _)]), cells_len, Bool.and_eq_true]
  exact ⟨decide_eq_true (by omega), decide_eq_true (by omega)⟩
theorem cut_pos {life era seq : Int} {b : List Nat} (h : (cutF life era seq b).2 = 0) : 0 < (cutF life era seq b).1.length := by
  obtain ⟨h1, h2, h3⟩ := cut_good h
  rw [h1]
  simp only
  rw [cells_len]
  exact partsN_pos _
theorem Dv.write_fit {d : Dv} {p : Int} {cs : List (List Nat)} (hon : d.on = true) (hf : fitsF d.S.length p cs = true) (h0 : 0 < cs.length) :
    d.write p cs = ({ d.burnt with S := putK d.torn d.keep p.toNat cs cs.length d.S, writes := wrap64 (d.writes + 1) }, if d.torn = true then 9 else 0) := by
  unfold Dv.write
  rw [if_pos hon, if_pos hf, if_neg (by omega)]
def Sc.app (x : Sc) (d : Dv) (l : List Nat) : (Sc × Dv) × Int :=
  if x.dead = true ∨ d.on = false then ((x, d), 9)
  else if (cutF x.life x.era ((x.L.length + 1 : Nat) : Int) l).2 ≠ 0 then ((x, d), (cutF x.life x.era ((x.L.length + 1 : Nat) : Int) l).2)
  else if (x.t : Int) - (x.f : Int) - (x.used : Int) < (((cutF x.life x.era ((x.L.length + 1 : Nat) : Int) l).1.length : Nat) : Int) then ((x, d), 10)
  else if d.torn = true then (({ x with dead := true }, (d.write ((x.f + x.used : Nat) : Int) (cutF x.life x.era ((x.L.length + 1 : Nat) : Int) l).1).1), 9)
  else ((x.add l (cutF x.life x.era ((x.L.length + 1 : Nat) : Int) l).1.length, (d.write ((x.f + x.used : Nat) : Int) (cutF x.life x.era ((x.L.length + 1 : Nat) : Int) l).1).1), 0)
theorem sapp_any {B b g kc s c : Nat} {K A : Option Addr} {d : Dv} {R : List (RowS Nat)} {x : Sc} (rA : Option Addr) (rc_ : Nat) (l : List Nat) (w : World) (hd : DrA B w b g K kc d) (hs : ScA B w s b A c R x) (hB : B ≤ w.heap.size) (hlc : l.length ≤ rc_) (hcm : rc_ ≤ maxLen) (hl : l.length ≤ 100000) (hrs : SlF w b g rA (by8 l)) (ho : Oct l) (ht : x.t ≤ d.S.length) (hLn : x.L.length ≤ 900000) :
    Calls Try.prog 18 #[.pointer (some ⟨s, 0, none⟩), .slice rA l.length rc_] w fun e w' => e = .returned (.int .i64 (x.app d l).2) ∧ ∃ A' c' R', ScA B w' s b A' c' R' (x.app d l).1.1 ∧ DrA B w' b g K kc (x.app d l).1.2 ∧ ChgL (b :: g :: s :: (x.row A c).ownBlock.toList) w w' ∧
      (((x.app d l).1.1.row A' c').ownBlock = (x.row A c).ownBlock ∨ ∃ k, w.heap.size ≤ k ∧ ((x.app d l).1.1.row A' c').ownBlock = some k) := by
  cases hdead : x.dead with
  | true =>
    have e1 : x.app d l = ((x, d), 9) := by unfold Sc.app; rw [if_pos (Or.inl hdead)]
    rw [e1]
    refine (sapp_dead rA rc_ l w hd hs hB hlc hcm hl hrs ho hdead).mono ?_
    rintro e w' ⟨rfl, hb⟩
    exact ⟨rfl, A, c, R, hs.below hb, hd.below hb, ChgL.of_below hb, .inl rfl⟩
  | false =>
    cases hon : d.on with
    | false =>
      have e1 : x.app d l = ((x, d), 9) := by unfold Sc.app; rw [if_pos (Or.inr hon)]
      rw [e1]
      refine (sapp_off rA rc_ l w hd hs hB hlc hcm hl hrs ho hdead hon).mono ?_
      rintro e w' ⟨rfl, hb⟩
      exact ⟨rfl, A, c, R, hs.below hb, hd.below hb, ChgL.of_below hb, .inl rfl⟩
    | true =>
      have e0 : ¬ (x.dead = true ∨ d.on = false) := by rw [hdead, hon]; decide
      by_cases hcz : (cutF x.life x.era ((x.L.length + 1 : Nat) : Int) l).2 ≠ 0
      · have e1 : x.app d l = ((x, d), (cutF x.life x.era ((x.L.length + 1 : Nat) : Int) l).2) := by unfold Sc.app; rw [if_neg e0, if_pos hcz]
        rw [e1]
        refine (sapp_cut rA rc_ l w hd hs hB hlc hcm hl hrs ho hdead hon hcz).mono ?_
        rintro e w' ⟨rfl, hb⟩
        exact ⟨rfl, A, c, R, hs.below hb, hd.below hb, ChgL.of_below hb, .inl rfl⟩
      · have hcz0 : (cutF x.life x.era ((x.L.length + 1 : Nat) : Int) l).2 = 0 := Classical.not_not.1 hcz
        by_cases hroom : (x.t : Int) - (x.f : Int) - (x.used : Int) < (((cutF x.life x.era ((x.L.length + 1 : Nat) : Int) l).1.length : Nat) : Int)
        · have e1 : x.app d l = ((x, d), 10) := by unfold Sc.app; rw [if_neg e0, if_neg hcz, if_pos hroom]
          rw [e1]
          refine (sapp_full rA rc_ l w hd hs hB hlc hcm hl hrs ho hdead hon hcz0 hroom).mono ?_
          rintro e w' ⟨rfl, hb⟩
          exact ⟨rfl, A, c, R, hs.below hb, hd.below hb, ChgL.of_below hb, .inl rfl⟩
        · have hfit := cut_fits (m := d.S.length) (p := x.f + x.used) hcz0 (by omega)
          have hw := Dv.write_fit hon hfit (cut_pos hcz0)
          have hlen := cutF_len x.life x.era ((x.L.length + 1 : Nat) : Int) l
          cases ht : d.torn with
          | true =>
            have hw2 : (d.write ((x.f + x.used : Nat) : Int) (cutF x.life x.era ((x.L.length + 1 : Nat) : Int) l).1).2 = 9 := by rw [hw, ht]; rfl
            have e1 : x.app d l = (({ x with dead := true }, (d.write ((x.f + x.used : Nat) : Int) (cutF x.life x.era ((x.L.length + 1 : Nat) : Int) l).1).1), 9) := by unfold Sc.app; rw [if_neg e0, if_neg hcz, if_neg hroom, if_pos ht]
            rw [e1]
            refine (sapp_torn rA rc_ l w hd hs hB hlc hcm hl hrs ho hdead hon hcz0 hroom hw2 hlen hLn).mono ?_
            rintro e w' ⟨rfl, h1, h2, h3⟩
            exact ⟨rfl, A, c, R, h1, h2, h3, .inl rfl⟩
          | false =>
            have hw2 : (d.write ((x.f + x.used : Nat) : Int) (cutF x.life x.era ((x.L.length + 1 : Nat) : Int) l).1).2 = 0 := by rw [hw, ht]; rfl
            have e1 : x.app d l = ((x.add l (cutF x.life x.era ((x.L.length + 1 : Nat) : Int) l).1.length, (d.write ((x.f + x.used : Nat) : Int) (cutF x.life x.era ((x.L.length + 1 : Nat) : Int) l).1).1), 0) := by unfold Sc.app; rw [if_neg e0, if_neg hcz, if_neg hroom, if_neg (by rw [ht]; decide)]
            rw [e1]
            refine (sapp_go rA rc_ l w hd hs hB hlc hcm hl hrs ho hdead hon hcz0 hroom hw2 hlen hLn).mono ?_
            rintro e w' ⟨rfl, A', c', R', h1, h2, h3, h4⟩
            exact ⟨rfl, A', c', R', h1, h2, h3, h4⟩
theorem cell_blk {w w1 : World} {b i : Nat} (h : w1.heap[b]? = w.heap[b]?) : w1.cell? ⟨b, i, none⟩ = w.cell? ⟨b, i, none⟩ := by
  unfold World.cell?
  simp only [h]
def SlX (l : List Nat) (w : World) (A : Option Addr) (xs : List Value) : Prop := Sl w A xs ∧ ∀ p, A = some p → xs ≠ [] → p.block < w.heap.size ∧ p.block ∉ l
section
variable {l m : List Nat} {w w1 : World} {A : Option Addr} {xs : List Value}
theorem SlX.nil : SlX l w none [] := ⟨Sl.nil, fun p h => by cases h⟩
theorem SlX.chg (h : SlX l w A xs) (hc : ChgL l w w1) (hm : ∀ x ∈ m, x ∈ l ∨ w.heap.size ≤ x) : SlX m w1 A xs := by
  by_cases hne : xs = []
  · subst hne
    exact ⟨fun h0 => absurd rfl h0, fun p _ h0 => absurd rfl h0⟩
  · obtain ⟨b, o, hA, hcs⟩ := h.1 hne
    obtain ⟨hlt, hn⟩ := h.2 _ hA hne
    refine ⟨fun _ => ⟨b, o, hA, fun i u hu => ?_⟩, fun p hp _ => ?_⟩
    · rw [← hcs i u hu]
      exact cell_blk (hc.block b hlt hn)
    · rw [hA] at hp
      injection hp with hp
      subst hp
      exact ⟨Nat.lt_of_lt_of_le hlt hc.size, fun hx => (hm _ hx).elim hn (fun h9 => absurd hlt (by omega))⟩
theorem SlX.below (h : SlX l w A xs) (hb : Below w.heap.size w w1) : SlX l w1 A xs := h.chg (ChgL.of_below hb) (fun x hx => .inl hx)
theorem SlX.sl (h : SlX l w A xs) : Sl w A xs := h.1
theorem SlX.slf {b g : Nat} (h : SlX l w A xs) (hb : b ∈ l) (hg : g ∈ l) : SlF w b g A xs := ⟨h.1, fun hne p hp => by
  obtain ⟨_, hn⟩ := h.2 p hp hne
  exact ⟨fun e => hn (e ▸ hb), fun e => hn (e ▸ hg)⟩⟩
theorem SlX.own {B e size n c : Nat} (ho : w.ownsRow B e size (.slice A n c) n xs) (hl : ∀ x ∈ l, x < B) : SlX l w A xs := by
  refine ⟨Sl.of_own ho, fun p hp hne => ?_⟩
  obtain ⟨b, o, hA, hcs⟩ := Sl.of_own ho hne
  have hge := own_ge ho
  rw [hA] at hp
  injection hp with hp
  subst hp
  rcases ho.2 with ⟨hv, _⟩ | ⟨k, cap, cur, hv, hk2, hh, _⟩
  · injection hv with hv _ _
    rw [hA] at hv; cases hv
  · injection hv with hv _ _
    rw [hA] at hv
    injection hv with hv
    injection hv with hv _
    subst hv
    exact ⟨(Array.getElem?_eq_some_iff.1 hh).1, fun hx => by
      have h1 : b < B := hl _ hx
      have hge2 : B ≤ b := hge b (by rw [hA]; rfl)
      omega⟩
end
end
section
def Chain (S : List (List Nat)) (t : Nat) (era : Int) : Nat → Nat → Int → List (List Nat) → Nat → Int → Prop
  | q, _, life, [], q2, ml => q = q2 ∧ life = ml
  | q, n, life, b :: L, q2, ml => ∃ f, readF S q t = some (b, f) ∧ f.era = era ∧ f.seq = ((n + 1 : Nat) : Int) ∧ life ≤ f.life ∧ Chain S t era (q + f.parts.toNat) (n + 1) f.life L q2 ml
def Stop (S : List (List Nat)) (t : Nat) (era : Int) (q n : Nat) (ml : Int) : Prop := ∀ b f, readF S q t = some (b, f) → ¬ (f.era = era ∧ f.seq = ((n + 1 : Nat) : Int) ∧ ml ≤ f.life)
theorem Chain.scan {S : List (List Nat)} {t : Nat} {era : Int} : ∀ {L : List (List Nat)} {q n : Nat} {life : Int} {q2 : Nat} {ml : Int}, Chain S t era q n life L q2 ml → Stop S t era q2 (n + L.length) ml → scan S t era q n life = (L, q2)
  | [], q, n, life, q2, ml, h, hs => by
    obtain ⟨rfl, rfl⟩ := h
    exact scan_stop hs
  | b :: L, q, n, life, q2, ml, h, hs => by
    obtain ⟨f, h1, h2, h3, h4, h5⟩ := h
    have ih := Chain.scan h5 (by rw [show n + 1 + L.length = n + (b :: L).length by rw [List.length_cons]; omega]; exact hs)
    rw [scan_go h1 ⟨h2, h3, h4⟩, ih]
theorem Chain.snoc {S : List (List Nat)} {t : Nat} {era : Int} {b : List Nat} {f : Fr} : ∀ {L : List (List Nat)} {q n : Nat} {life : Int} {q2 : Nat} {ml : Int}, Chain S t era q n life L q2 ml → readF S q2 t = some (b, f) → f.era = era → f.seq = ((n + L.length + 1 : Nat) : Int) → ml ≤ f.life →
    Chain S t era q n life (L ++ [b]) (q2 + f.parts.toNat) f.life
  | [], q, n, life, q2, ml, h, h1, h2, h3, h4 => by
    obtain ⟨rfl, rfl⟩ := h
    exact ⟨f, h1, h2, h3, h4, rfl, rfl⟩
  | c :: L, q, n, life, q2, ml, h, h1, h2, h3, h4 => by
    obtain ⟨g, g1, g2, g3, g4, g5⟩ := h
    exact ⟨g, g1, g2, g3, g4, Chain.snoc g5 h1 h2 (by rw [h3, List.length_cons]; omega) h4⟩
theorem Chain.le {S : List (List Nat)} {t : Nat} {era : Int} : ∀ {L : List (List Nat)} {q n : Nat} {life : Int} {q2 : Nat} {ml : Int}, Chain S t era q n life L q2 ml → q ≤ q2 ∧ L.length ≤ q2 - q ∧ (q ≤ t → q2 ≤ t) ∧ life ≤ ml
  | [], q, n, life, q2, ml, h => by
    obtain ⟨rfl, rfl⟩ := h
    exact ⟨Nat.le_refl _, Nat.zero_le _, fun h => h, Int.le_refl _⟩
  | b :: L, q, n, life, q2, ml, h => by
    obtain ⟨f, h1, h2, h3, h4, h5⟩ := h
    have hp := readF_parts h1
    obtain ⟨i1, i2, i3, i4⟩ := Chain.le h5
    rw [List.length_cons]
    have := i3 (by omega)
    exact ⟨by omega, by omega, fun _ => by omega, by omega⟩
theorem Chain.low {S : List (List Nat)} {t : Nat} {era M : Int} (hall : ∀ (i : Int) (f : Fr), frD S i = some f → f.life ≤ M) : ∀ {L : List (List Nat)} {q n : Nat} {life : Int} {q2 : Nat} {ml : Int}, Chain S t era q n life L q2 ml → life ≤ M → ml ≤ M
  | [], q, n, life, q2, ml, h, hm => by
    obtain ⟨rfl, rfl⟩ := h
    exact hm
  | b :: L, q, n, life, q2, ml, h, hm => by
    obtain ⟨f, h1, h2, h3, h4, h5⟩ := h
    exact Chain.low hall h5 (hall _ f (readF_iff.1 h1).2.1)
theorem Chain.same {S T : List (List Nat)} (hl : S.length = T.length) {t : Nat} {era : Int} : ∀ {L : List (List Nat)} {q n : Nat} {life : Int} {q2 : Nat} {ml : Int}, Chain S t era q n life L q2 ml → (∀ i, q ≤ i → i < q2 → S[i]? = T[i]?) → Chain T t era q n life L q2 ml
  | [], q, n, life, q2, ml, h, _ => h
  | b :: L, q, n, life, q2, ml, h, hst => by
    obtain ⟨f, h1, h2, h3, h4, h5⟩ := h
    have hp := readF_parts h1
    have hle := Chain.le h5
    refine ⟨f, ?_, h2, h3, h4, Chain.same hl h5 (fun i hi hi2 => hst i (by omega) hi2)⟩
    rw [← h1]
    refine (readF_same hl (readF_iff.1 h1).2.1 fun j hj => frD_eq hl ?_).symm
    have e : ((q : Int) + (j : Int)).toNat = q + j := by omega
    rw [e]
    exact hst _ (by omega) (by omega)
def Torn8 (S T : List (List Nat)) (P n : Nat) (life era seq : Int) (b : List Nat) : Prop := T.length = S.length ∧ ∀ i, T[i]? = S[i]? ∨ (P ≤ i ∧ i < P + n ∧ T[i]? = some (sealed (piece life era seq b n (i - P)).body))
structure J8 (S : List (List Nat)) (f0 t : Nat) (era : Int) (life : Int) (X : List (List Nat)) (q : Nat) (ml : Int) : Prop where
  len : t ≤ S.length
  ft : f0 ≤ t
  pos : 0 ≤ life
  all : ∀ (i : Int) (f : Fr), frD S i = some f → f.life ≤ life
  chain : Chain S t era f0 0 0 X q ml
  stop : Stop S t era q X.length ml
def Low8 (S : List (List Nat)) (life : Int) (q : Nat) : Prop := ∀ (i : Nat) (f : Fr), q ≤ i → frD S i = some f → f.life < life
section
variable {S T : List (List Nat)} {f0 t : Nat} {era life : Int} {X : List (List Nat)} {q : Nat} {ml : Int}
theorem J8.scan (h : J8 S f0 t era life X q ml) : scan S t era f0 0 0 = (X, q) := h.chain.scan (by rw [Nat.zero_add]; exact h.stop)
theorem J8.bd (h : J8 S f0 t era life X q ml) : f0 ≤ q ∧ q ≤ t ∧ X.length ≤ q - f0 ∧ ml ≤ life := by
  obtain ⟨h1, h2, h3, h4⟩ := h.chain.le
  exact ⟨h1, h3 h.ft, h2, h.chain.low h.all h.pos⟩
theorem J8.next (h : J8 S f0 t era life X q ml) {life2 : Int} (h2 : life < life2) : J8 S f0 t era life2 X q ml ∧ Low8 S life2 q := by
  have hpos := h.pos
  exact ⟨⟨h.len, h.ft, by omega, fun i f hf => by have := h.all i f hf; omega, h.chain, h.stop⟩, fun i f _ hf => by have := h.all i f hf; omega⟩
theorem torn8_all (h : J8 S f0 t era life X q ml) {n : Nat} {b : List Nat} {seq : Int} (hb : n ≤ 255) (hok : (piece life era seq b n 0).ok = true) (hqn : q + n ≤ t) (ht : Torn8 S T q n life era seq b) :
    ∀ (i : Int) (f : Fr), frD T i = some f → f.life ≤ life := fun i f hf => by
  obtain ⟨h0, h1, h2, _⟩ := frD_some hf
  obtain ⟨k, rfl⟩ : ∃ k : Nat, i = (k : Int) := ⟨i.toNat, by omega⟩
  rcases ht.2 k with e | ⟨e1, e2, e3⟩
  · rw [frD_eq ht.1 (by simpa using e)] at hf
    exact h.all _ _ hf
  · have hk : k < T.length := by omega
    rw [List.getElem?_eq_getElem hk] at e3
    rw [frD_at hk, Option.some.inj e3, frB_enc ((piece_ok (by omega) (by omega)).trans hok)] at hf
    have := Option.some.inj hf
    rw [← this]
    exact Int.le_refl _
theorem J8.step (h : J8 S f0 t era life X q ml) (hlow : Low8 S life q) {n : Nat} {b : List Nat} (hn : partsN b.length = n) (hb : n ≤ 255) (hok : (piece life era ((X.length + 1 : Nat) : Int) b n 0).ok = true) (hqn : q + n ≤ t)
    (ht : Torn8 S T q n life era ((X.length + 1 : Nat) : Int) b) : J8 T f0 t era life (X ++ [b]) (q + n) life ∨ J8 T f0 t era life X q ml := by
  have hall := torn8_all h hb hok hqn ht
  have hp := partsN_pos b.length
  have hbd := h.bd
  have hlen := h.len
  have htl := ht.1
  have hch : Chain T t era f0 0 0 X q ml := h.chain.same htl.symm (fun i h1 h2 => by
    rcases ht.2 i with e | ⟨e1, _, _⟩
    · exact e.symm
    · omega)
  have hrd := readF_torn (tt := (t : Int)) ht.1 hn hb hok (by omega) (by omega) ht.2 (fun i f h1 _ h2 => hlow i f h1 h2)
  rcases hrd with e | e | e
  · left
    refine ⟨by omega, h.ft, h.pos, hall, ?_, ?_⟩
    · have := Chain.snoc hch e (show (piece life era ((X.length + 1 : Nat) : Int) b n 0).era = era from rfl) (show (piece life era ((X.length + 1 : Nat) : Int) b n 0).seq = ((0 + X.length + 1 : Nat) : Int) by rw [Nat.zero_add]; rfl) hbd.2.2.2
      rw [show (piece life era ((X.length + 1 : Nat) : Int) b n 0).parts.toNat = n by show ((n : Nat) : Int).toNat = n; omega] at this
      exact this
    · intro b2 f2 hr ⟨_, _, h3⟩
      have hf := (readF_iff.1 hr).2.1
      rcases ht.2 (q + n) with e2 | ⟨_, e2, _⟩
      · rw [frD_eq htl (by rw [Int.toNat_natCast]; exact e2)] at hf
        have := hlow (q + n) f2 (by omega) hf
        omega
      · omega
  · right
    exact ⟨by omega, h.ft, h.pos, hall, hch, fun b2 f2 hr => by rw [e] at hr; cases hr⟩
  · right
    exact ⟨by omega, h.ft, h.pos, hall, hch, fun b2 f2 hr => by rw [e] at hr; exact h.stop b2 f2 hr⟩
theorem J8.whole (h : J8 S f0 t era life X q ml) (hlow : Low8 S life q) {n : Nat} {b : List Nat} (hn : partsN b.length = n) (hb : n ≤ 255) (hok : (piece life era ((X.length + 1 : Nat) : Int) b n 0).ok = true) (hqn : q + n ≤ t)
    (ht : Torn8 S T q n life era ((X.length + 1 : Nat) : Int) b) (hw : ∀ j, j < n → T[q + j]? = some (sealed (piece life era ((X.length + 1 : Nat) : Int) b n j).body)) : J8 T f0 t era life (X ++ [b]) (q + n) life ∧ Low8 T life (q + n) := by
  have hlen := h.len
  have htl := ht.1
  have hr := readF_new (S := T) (P := q) (tt := (t : Int)) hn hb hok (by omega) (by omega) hw
  have hbd := h.bd
  have hch : Chain T t era f0 0 0 X q ml := h.chain.same htl.symm (fun i h1 h2 => by
    rcases ht.2 i with e | ⟨e1, _, _⟩
    · exact e.symm
    · omega)
  have hlow2 : Low8 T life (q + n) := fun i f hi hf => by
    rcases ht.2 i with e2 | ⟨_, e2, _⟩
    · rw [frD_eq htl (by rw [Int.toNat_natCast]; exact e2)] at hf
      exact hlow i f (by omega) hf
    · omega
  refine ⟨⟨by omega, h.ft, h.pos, torn8_all h hb hok hqn ht, ?_, ?_⟩, hlow2⟩
  · have := Chain.snoc hch hr (show (piece life era ((X.length + 1 : Nat) : Int) b n 0).era = era from rfl) (show (piece life era ((X.length + 1 : Nat) : Int) b n 0).seq = ((0 + X.length + 1 : Nat) : Int) by rw [Nat.zero_add]; rfl) hbd.2.2.2
    rw [show (piece life era ((X.length + 1 : Nat) : Int) b n 0).parts.toNat = n by show ((n : Nat) : Int).toNat = n; omega] at this
    exact this
  · intro b2 f2 hr2 ⟨_, _, h3⟩
    have := hlow2 (q + n) f2 (Nat.le_refl _) (readF_iff.1 hr2).2.1
    omega
end
theorem write_torn8 {d : Dv} {P : Nat} {life era seq : Int} {b : List Nat} (hon : d.on = true) (hcz : (cutF life era seq b).2 = 0) (hP : P + (cutF life era seq b).1.length ≤ d.S.length) :
    ∃ n, partsN b.length = n ∧ n ≤ 255 ∧ (piece life era seq b n 0).ok = true ∧ (cutF life era seq b).1.length = n ∧ Torn8 d.S (d.write (P : Int) (cutF life era seq b).1).1.S P n life era seq b ∧
      (d.torn = false → ∀ j, j < n → (d.write (P : Int) (cutF life era seq b).1).1.S[P + j]? = some (sealed (piece life era seq b n j).body)) := by
  rw [Dv.write_fit hon (cut_fits hcz hP) (cut_pos hcz)]
  obtain ⟨h1, h2, h3⟩ := cut_good hcz
  rw [h1] at hP ⊢
  simp only at hP ⊢
  rw [cells_len] at hP ⊢
  obtain ⟨n, hn⟩ : ∃ n, partsN b.length = n := ⟨_, rfl⟩
  rw [hn] at hP h2 h3 ⊢
  rw [Int.toNat_natCast]
  refine ⟨n, rfl, h2, h3, rfl, ⟨putK_len n, fun i => ?_⟩, fun ht j hj => ?_⟩
  · rcases putK_or (torn := d.torn) (keep := d.keep) (p := P) (cs := cellsF life era seq b n n) (S := d.S) n (by rw [cells_len]; exact Nat.le_refl _) i with e | ⟨e1, e2, e3⟩
    · exact .inl e
    · refine .inr ⟨e1, e2, ?_⟩
      rw [e3 (by omega)]
      exact cells_at (by omega)
  · rw [ht, putK_in n (by rw [cells_len]; exact Nat.le_refl _) (P + j) (by omega) (by omega) (by omega), show P + j - P = j by omega]
    exact cells_at hj
theorem newest_le {S : List (List Nat)} {M : Int} (hM : 0 ≤ M) (h : ∀ (i : Int) (f : Fr), frD S i = some f → f.life ≤ M) (f : Nat) : ∀ k, newestN S f k ≤ M
  | 0 => hM
  | k + 1 => by
    have ih := newest_le hM h f k
    unfold newestN
    split
    · exact ih
    · rename_i x hx
      have := h _ _ hx
      split <;> omega
theorem j8_new {n f0 t : Nat} {era : Int} (hft : f0 ≤ t) (ht : t ≤ n) {life : Int} (hl : 0 ≤ life) : J8 (Dv.new n).S f0 t era life [] f0 0 :=
  ⟨by simpa [Dv.new] using ht, hft, hl, fun i f h => (by rw [frD_new] at h; cases h), ⟨rfl, rfl⟩, fun b f h => (by rw [readF_no (frD_new n _)] at h; cases h)⟩
end
end Go.Proofs.Ytiggcpfmmgmncaa
