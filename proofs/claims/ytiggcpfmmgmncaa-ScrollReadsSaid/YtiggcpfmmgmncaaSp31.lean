import Derived.Test.YtiggcpfmmgmncaaSp30
section
namespace Go.Proofs.Ytiggcpfmmgmncaa
open Go.ChangeShapes Go.WideShapes Go.ChangeAt Go.RowKit
set_option linter.unusedVariables false
set_option linter.unusedSimpArgs false

theorem cut_good {life era seq : Int} {b : List Nat} (h : (cutF life era seq b).2 = 0) : cutF life era seq b = (cellsF life era seq b (partsN b.length) (partsN b.length), 0) ∧ partsN b.length ≤ 255 ∧ (piece life era seq b (partsN b.length) 0).ok = true := by
  unfold cutF at *
  split at h
  · exact absurd h (by decide)
  · rename_i h1
    rw [if_neg h1]
    split at h
    · rename_i h2
      rw [if_pos h2]
      exact ⟨rfl, by omega, h2⟩
    · exact absurd h (by decide)
theorem cut_fits {life era seq : Int} {b : List Nat} (h : (cutF life era seq b).2 = 0) {m p : Nat} (hm : p + (cutF life era seq b).1.length ≤ m) : fitsF m (p : Int) (cutF life era seq b).1 = true := by
  obtain ⟨h1, h2, h3⟩ := cut_good h
  rw [h1] at hm ⊢
  simp only at hm ⊢
  rw [cells_len] at hm
  rw [fitsF_good (fun k hk => by
    rw [cells_len] at hk
    have e := cells_at (life := life) (era := era) (seq := seq) (b := b) hk
    rw [List.getElem?_eq_getElem (by rw [cells_len]; exact hk)] at e
    rw [Option.some.inj e, sealed_len, Fr.body_len (seg_le _ _ _)]), cells_len, Bool.and_eq_true]
  exact ⟨decide_eq_true (by omega), decide_eq_true (by omega)⟩
theorem cut_pos {life era seq : Int} {b : List Nat} (h : (cutF life era seq b).2 = 0) : 0 < (cutF life era seq b).1.length := by
  obtain ⟨h1, h2, h3⟩ := cut_good h
  rw [h1]
  simp only
  rw [cells_len]
  exact partsN_pos _
theorem Dv.write_fit {d : Dv} {p : Int} {cs : List (List Nat)} (hon : d.on = true) (hf : fitsF d.S.length p cs = true) (h0 : 0 < cs.length) :
    d.write p cs = ({ d.burnt with S := putK d.torn d.keep p.toNat cs cs.length d.S, writes := wrap64 (d.writes + 1) }, if d.torn = true then 9 else 0) := by
  unfold Dv.write
  rw [if_pos hon, if_pos hf, if_neg (by omega)]
def Sc.app (x : Sc) (d : Dv) (l : List Nat) : (Sc × Dv) × Int :=
  if x.dead = true ∨ d.on = false then ((x, d), 9)
  else if (cutF x.life x.era ((x.L.length + 1 : Nat) : Int) l).2 ≠ 0 then ((x, d), (cutF x.life x.era ((x.L.length + 1 : Nat) : Int) l).2)
  else if (x.t : Int) - (x.f : Int) - (x.used : Int) < (((cutF x.life x.era ((x.L.length + 1 : Nat) : Int) l).1.length : Nat) : Int) then ((x, d), 10)
  else if d.torn = true then (({ x with dead := true }, (d.write ((x.f + x.used : Nat) : Int) (cutF x.life x.era ((x.L.length + 1 : Nat) : Int) l).1).1), 9)
  else ((x.add l (cutF x.life x.era ((x.L.length + 1 : Nat) : Int) l).1.length, (d.write ((x.f + x.used : Nat) : Int) (cutF x.life x.era ((x.L.length + 1 : Nat) : Int) l).1).1), 0)
set_option maxHeartbeats 2000000 in
theorem sapp_any {B b g kc s c : Nat} {K A : Option Addr} {d : Dv} {R : List (RowS Nat)} {x : Sc} (rA : Option Addr) (rc_ : Nat) (l : List Nat) (w : World) (hd : DrA B w b g K kc d) (hs : ScA B w s b A c R x) (hB : B ≤ w.heap.size) (hlc : l.length ≤ rc_) (hcm : rc_ ≤ maxLen) (hl : l.length ≤ 100000) (hrs : SlF w b g rA (by8 l)) (ho : Oct l) (ht : x.t ≤ d.S.length) (hLn : x.L.length ≤ 900000) :
    Calls Try.prog 18 #[.pointer (some ⟨s, 0, none⟩), .slice rA l.length rc_] w fun e w' => e = .returned (.int .i64 (x.app d l).2) ∧ ∃ A' c' R', ScA B w' s b A' c' R' (x.app d l).1.1 ∧ DrA B w' b g K kc (x.app d l).1.2 ∧ ChgL (b :: g :: s :: (x.row A c).ownBlock.toList) w w' ∧
      (((x.app d l).1.1.row A' c').ownBlock = (x.row A c).ownBlock ∨ ∃ k, w.heap.size ≤ k ∧ ((x.app d l).1.1.row A' c').ownBlock = some k) := by
  cases hdead : x.dead with
  | true =>
    have e1 : x.app d l = ((x, d), 9) := by unfold Sc.app; rw [if_pos (Or.inl hdead)]
    rw [e1]
    refine (sapp_dead rA rc_ l w hd hs hB hlc hcm hl hrs ho hdead).mono ?_
    rintro e w' ⟨rfl, hb⟩
    exact ⟨rfl, A, c, R, hs.below hb, hd.below hb, ChgL.of_below hb, .inl rfl⟩
  | false =>
    cases hon : d.on with
    | false =>
      have e1 : x.app d l = ((x, d), 9) := by unfold Sc.app; rw [if_pos (Or.inr hon)]
      rw [e1]
      refine (sapp_off rA rc_ l w hd hs hB hlc hcm hl hrs ho hdead hon).mono ?_
      rintro e w' ⟨rfl, hb⟩
      exact ⟨rfl, A, c, R, hs.below hb, hd.below hb, ChgL.of_below hb, .inl rfl⟩
    | true =>
      have e0 : ¬ (x.dead = true ∨ d.on = false) := by rw [hdead, hon]; decide
      by_cases hcz : (cutF x.life x.era ((x.L.length + 1 : Nat) : Int) l).2 ≠ 0
      · have e1 : x.app d l = ((x, d), (cutF x.life x.era ((x.L.length + 1 : Nat) : Int) l).2) := by unfold Sc.app; rw [if_neg e0, if_pos hcz]
        rw [e1]
        refine (sapp_cut rA rc_ l w hd hs hB hlc hcm hl hrs ho hdead hon hcz).mono ?_
        rintro e w' ⟨rfl, hb⟩
        exact ⟨rfl, A, c, R, hs.below hb, hd.below hb, ChgL.of_below hb, .inl rfl⟩
      · have hcz0 : (cutF x.life x.era ((x.L.length + 1 : Nat) : Int) l).2 = 0 := Classical.not_not.1 hcz
        by_cases hroom : (x.t : Int) - (x.f : Int) - (x.used : Int) < (((cutF x.life x.era ((x.L.length + 1 : Nat) : Int) l).1.length : Nat) : Int)
        · have e1 : x.app d l = ((x, d), 10) := by unfold Sc.app; rw [if_neg e0, if_neg hcz, if_pos hroom]
          rw [e1]
          refine (sapp_full rA rc_ l w hd hs hB hlc hcm hl hrs ho hdead hon hcz0 hroom).mono ?_
          rintro e w' ⟨rfl, hb⟩
          exact ⟨rfl, A, c, R, hs.below hb, hd.below hb, ChgL.of_below hb, .inl rfl⟩
        · have hfit := cut_fits (m := d.S.length) (p := x.f + x.used) hcz0 (by omega)
          have hw := Dv.write_fit hon hfit (cut_pos hcz0)
          have hlen := cutF_len x.life x.era ((x.L.length + 1 : Nat) : Int) l
          cases ht : d.torn with
          | true =>
            have hw2 : (d.write ((x.f + x.used : Nat) : Int) (cutF x.life x.era ((x.L.length + 1 : Nat) : Int) l).1).2 = 9 := by rw [hw, ht]; rfl
            have e1 : x.app d l = (({ x with dead := true }, (d.write ((x.f + x.used : Nat) : Int) (cutF x.life x.era ((x.L.length + 1 : Nat) : Int) l).1).1), 9) := by unfold Sc.app; rw [if_neg e0, if_neg hcz, if_neg hroom, if_pos ht]
            rw [e1]
            refine (sapp_torn rA rc_ l w hd hs hB hlc hcm hl hrs ho hdead hon hcz0 hroom hw2 hlen hLn).mono ?_
            rintro e w' ⟨rfl, h1, h2, h3⟩
            exact ⟨rfl, A, c, R, h1, h2, h3, .inl rfl⟩
          | false =>
            have hw2 : (d.write ((x.f + x.used : Nat) : Int) (cutF x.life x.era ((x.L.length + 1 : Nat) : Int) l).1).2 = 0 := by rw [hw, ht]; rfl
            have e1 : x.app d l = ((x.add l (cutF x.life x.era ((x.L.length + 1 : Nat) : Int) l).1.length, (d.write ((x.f + x.used : Nat) : Int) (cutF x.life x.era ((x.L.length + 1 : Nat) : Int) l).1).1), 0) := by unfold Sc.app; rw [if_neg e0, if_neg hcz, if_neg hroom, if_neg (by rw [ht]; decide)]
            rw [e1]
            refine (sapp_go rA rc_ l w hd hs hB hlc hcm hl hrs ho hdead hon hcz0 hroom hw2 hlen hLn).mono ?_
            rintro e w' ⟨rfl, A', c', R', h1, h2, h3, h4⟩
            exact ⟨rfl, A', c', R', h1, h2, h3, h4⟩
theorem cell_blk {w w1 : World} {b i : Nat} (h : w1.heap[b]? = w.heap[b]?) : w1.cell? ⟨b, i, none⟩ = w.cell? ⟨b, i, none⟩ := by
  unfold World.cell?
  simp only [h]
def SlX (l : List Nat) (w : World) (A : Option Addr) (xs : List Value) : Prop := Sl w A xs ∧ ∀ p, A = some p → xs ≠ [] → p.block < w.heap.size ∧ p.block ∉ l
section
variable {l m : List Nat} {w w1 : World} {A : Option Addr} {xs : List Value}
theorem SlX.nil : SlX l w none [] := ⟨Sl.nil, fun p h => by cases h⟩
theorem SlX.chg (h : SlX l w A xs) (hc : ChgL l w w1) (hm : ∀ x ∈ m, x ∈ l ∨ w.heap.size ≤ x) : SlX m w1 A xs := by
  by_cases hne : xs = []
  · subst hne
    exact ⟨fun h0 => absurd rfl h0, fun p _ h0 => absurd rfl h0⟩
  · obtain ⟨b, o, hA, hcs⟩ := h.1 hne
    obtain ⟨hlt, hn⟩ := h.2 _ hA hne
    refine ⟨fun _ => ⟨b, o, hA, fun i u hu => ?_⟩, fun p hp _ => ?_⟩
    · rw [← hcs i u hu]
      exact cell_blk (hc.block b hlt hn)
    · rw [hA] at hp
      injection hp with hp
      subst hp
      exact ⟨Nat.lt_of_lt_of_le hlt hc.size, fun hx => (hm _ hx).elim hn (fun h9 => absurd hlt (by omega))⟩
theorem SlX.below (h : SlX l w A xs) (hb : Below w.heap.size w w1) : SlX l w1 A xs := h.chg (ChgL.of_below hb) (fun x hx => .inl hx)
theorem SlX.sl (h : SlX l w A xs) : Sl w A xs := h.1
theorem SlX.slf {b g : Nat} (h : SlX l w A xs) (hb : b ∈ l) (hg : g ∈ l) : SlF w b g A xs := ⟨h.1, fun hne p hp => by
  obtain ⟨_, hn⟩ := h.2 p hp hne
  exact ⟨fun e => hn (e ▸ hb), fun e => hn (e ▸ hg)⟩⟩
theorem SlX.own {B e size n c : Nat} (ho : w.ownsRow B e size (.slice A n c) n xs) (hl : ∀ x ∈ l, x < B) : SlX l w A xs := by
  refine ⟨Sl.of_own ho, fun p hp hne => ?_⟩
  obtain ⟨b, o, hA, hcs⟩ := Sl.of_own ho hne
  have hge := own_ge ho
  rw [hA] at hp
  injection hp with hp
  subst hp
  rcases ho.2 with ⟨hv, _⟩ | ⟨k, cap, cur, hv, hk2, hh, _⟩
  · injection hv with hv _ _
    rw [hA] at hv; cases hv
  · injection hv with hv _ _
    rw [hA] at hv
    injection hv with hv
    injection hv with hv _
    subst hv
    exact ⟨(Array.getElem?_eq_some_iff.1 hh).1, fun hx => by
      have h1 : b < B := hl _ hx
      have hge2 : B ≤ b := hge b (by rw [hA]; rfl)
      omega⟩
end
end Go.Proofs.Ytiggcpfmmgmncaa
end
