import Derived.Test.YtiggcpfmmgmncaaSp38
section
namespace Go.Proofs.Ytiggcpfmmgmncaa
open Go.ChangeShapes Go.WideShapes Go.ChangeAt Go.RowKit
set_option linter.unusedVariables false
set_option linter.unusedSimpArgs false

theorem rapp_any {B b c kc s c2 : Nat} {A KA A2 : Option Addr} {R R2 : List (RowS Nat)} {x : Rv} {y : Sc} (rA : Option Addr) (rc_ : Nat) (l : List Nat) (w : World) (h : RvA B w b A c R KA kc x) (hy : RsA B w s b A2 c2 R2 y) (hB : B ≤ w.heap.size) (hlc : l.length ≤ rc_) (hcm : rc_ ≤ maxLen) (hl : l.length ≤ 100000) (hrs : Sl w rA (by8 l)) (ho : Oct l)
    (htc : y.t ≤ x.C.length) (hfu : x.fuse ≤ 9223372036854775807) (hfl : -9223372036854775807 ≤ x.fuse) (hap : ∀ z ∈ blkR b A x.C.length c, (y.row A2 c2).ownBlock ≠ some z) (hLn : y.L.length ≤ 900000) :
    Calls Try.prog 19 #[.pointer (some ⟨s, 0, none⟩), .slice rA l.length rc_] w fun e w' => e = .returned (.int .i64 (y.rapp x l).2) ∧ ∃ R' A2' c2' R2', RvA B w' b A c R' KA kc (y.rapp x l).1.2 ∧ RsA B w' s b A2' c2' R2' (y.rapp x l).1.1 ∧ (R2' = R2 ∨ R2' = R2 ++ [⟨rA, rc_, l⟩]) ∧ ChgL (blkD b A x.C.length c s (y.row A2 c2)) w w' ∧
      (((y.rapp x l).1.1.row A2' c2').ownBlock = (y.row A2 c2).ownBlock ∨ ∃ k, w.heap.size ≤ k ∧ ((y.rapp x l).1.1.row A2' c2').ownBlock = some k) := by
  by_cases hd : y.dead = true ∨ x.off = true
  · have e1 : y.rapp x l = ((y, x), 9) := by unfold Sc.rapp; rw [if_pos hd]
    rw [e1]
    refine (rapp_off rA rc_ l w h hy hB hlc hcm hl hrs ho hd).mono ?_
    rintro e w' ⟨rfl, rfl⟩
    exact ⟨rfl, R, A2, c2, R2, h, hy, .inl rfl, ChgL.refl _ _, .inl rfl⟩
  · have hdead : y.dead = false := by cases hh : y.dead <;> simp_all
    have hoff : x.off = false := by cases hh : x.off <;> simp_all
    by_cases hcz : (cutF y.life y.era ((y.L.length + 1 : Nat) : Int) l).2 ≠ 0
    · have e1 : y.rapp x l = ((y, x), (cutF y.life y.era ((y.L.length + 1 : Nat) : Int) l).2) := by unfold Sc.rapp; rw [if_neg hd, if_pos hcz]
      rw [e1]
      refine (rapp_cut rA rc_ l w h hy hB hlc hcm hl hrs ho hdead hoff hcz).mono ?_
      rintro e w' ⟨rfl, hb⟩
      exact ⟨rfl, R, A2, c2, R2, h.below hb, hy.below hb, .inl rfl, ChgL.of_below hb, .inl rfl⟩
    · have hcz0 : (cutF y.life y.era ((y.L.length + 1 : Nat) : Int) l).2 = 0 := Classical.not_not.1 hcz
      by_cases hroom : (y.t : Int) - (y.f : Int) - (y.used : Int) < (((cutF y.life y.era ((y.L.length + 1 : Nat) : Int) l).1.length : Nat) : Int)
      · have e1 : y.rapp x l = ((y, x), 10) := by unfold Sc.rapp; rw [if_neg hd, if_neg hcz, if_pos hroom]
        rw [e1]
        refine (rapp_full rA rc_ l w h hy hB hlc hcm hl hrs ho hdead hoff hcz0 hroom).mono ?_
        rintro e w' ⟨rfl, hb⟩
        exact ⟨rfl, R, A2, c2, R2, h.below hb, hy.below hb, .inl rfl, ChgL.of_below hb, .inl rfl⟩
      · have hways : (x.write ((y.f + y.used : Nat) : Int) (cutF y.life y.era ((y.L.length + 1 : Nat) : Int) l).1).2 = 9 ∨ (x.write ((y.f + y.used : Nat) : Int) (cutF y.life y.era ((y.L.length + 1 : Nat) : Int) l).1).2 = 0 := by
          unfold Rv.write
          rw [if_neg (by rw [hoff]; decide)]
          simp only
          split
          · left; rfl
          · right; rfl
        rcases hways with hw | hw
        · have e1 : y.rapp x l = (({ y with dead := true }, (x.write ((y.f + y.used : Nat) : Int) (cutF y.life y.era ((y.L.length + 1 : Nat) : Int) l).1).1), 9) := by unfold Sc.rapp; rw [if_neg hd, if_neg hcz, if_neg hroom, if_pos (by rw [hw]; decide), hw]
          rw [e1]
          refine (rapp_torn rA rc_ l w h hy hB hlc hcm hl hrs ho hdead hoff hcz0 hroom htc hfu hfl hap hw).mono ?_
          rintro e w' ⟨rfl, R', h1, h2, h3⟩
          exact ⟨rfl, R', A2, c2, R2, h1, h2, .inl rfl, h3, .inl rfl⟩
        · have e1 : y.rapp x l = ((y.add l (cutF y.life y.era ((y.L.length + 1 : Nat) : Int) l).1.length, (x.write ((y.f + y.used : Nat) : Int) (cutF y.life y.era ((y.L.length + 1 : Nat) : Int) l).1).1), 0) := by unfold Sc.rapp; rw [if_neg hd, if_neg hcz, if_neg hroom, if_neg (by rw [hw]; decide)]
          rw [e1]
          refine (rapp_go rA rc_ l w h hy hB hlc hcm hl hrs ho hdead hoff hcz0 hroom htc hfu hfl hap hw hLn).mono ?_
          rintro e w' ⟨rfl, R', A2', c2', h1, h2, h3, h4⟩
          exact ⟨rfl, R', A2', c2', _, h1, h2, .inr rfl, h3, h4⟩
structure Rel (d : Dv) (x : Rv) : Prop where
  C : x.C = d.S
  off : x.off = !d.on
  fz : d.on = true → d.fused = true → x.fuse = d.spare ∧ 0 ≤ d.spare ∧ x.keep = d.keep
  nf : d.on = true → d.fused = false → x.fuse = -1
  bd : -1 ≤ x.fuse ∧ x.fuse ≤ 9223372036854775807
theorem Rel.new (n : Nat) : Rel (Dv.new n) (Rv.new n) := ⟨rfl, rfl, (fun _ h => by cases h), fun _ _ => rfl, by show (-1 : Int) ≤ -1 ∧ (-1 : Int) ≤ _; decide⟩
theorem Rel.fuse {d : Dv} {x : Rv} (h : Rel d x) (n : Int) (l : List Nt) (hn : n ≤ 9223372036854775807) : (d.fuse n l).2 = (x.fused n l).2 ∧ Rel (d.fuse n l).1 (x.fused n l).1 := by
  unfold Dv.fuse
  have ho := h.off
  cases hon : d.on with
  | false =>
    have ho2 : x.off = true := by rw [ho, hon]; rfl
    rw [if_neg (by decide), show x.fused n l = (x, 9) from if_pos ho2]
    exact ⟨rfl, h⟩
  | true =>
    have ho : x.off = false := by rw [ho, hon]; rfl
    rw [if_pos rfl, show x.fused n l = ({ x with fuse := if n < 0 then -1 else n, keep := l }, 0) from if_neg (by rw [ho]; decide)]
    refine ⟨rfl, ?_⟩
    by_cases hn0 : 0 ≤ n
    · rw [if_pos hn0]
      refine ⟨h.C, (by show x.off = !true; rw [ho]; rfl), fun _ _ => ⟨?_, hn0, rfl⟩, (fun _ hf => by cases hf), ?_⟩
      · show (if n < 0 then -1 else n) = n; rw [if_neg (by omega)]
      · show -1 ≤ (if n < 0 then -1 else n) ∧ (if n < 0 then -1 else n) ≤ 9223372036854775807; rw [if_neg (by omega)]; omega
    · rw [if_neg hn0]
      refine ⟨h.C, (by show x.off = !true; rw [ho]; rfl), (fun _ hf => by cases hf), fun _ _ => ?_, ?_⟩
      · show (if n < 0 then -1 else n) = -1; rw [if_pos (by omega)]
      · show -1 ≤ (if n < 0 then (-1 : Int) else n) ∧ (if n < 0 then (-1 : Int) else n) ≤ 9223372036854775807; rw [if_pos (by omega)]; decide
theorem Rel.start {d : Dv} {x : Rv} (h : Rel d x) : Rel d.fresh { x with off := false, fuse := -1 } := ⟨h.C, rfl, (fun _ hf => by cases hf), fun _ _ => rfl, by show (-1 : Int) ≤ -1 ∧ (-1 : Int) ≤ _; decide⟩
theorem Rel.write {d : Dv} {x : Rv} (h : Rel d x) (hon : d.on = true) {p : Nat} {cs : List (List Nat)} (hf : fitsF d.S.length (p : Int) cs = true) (h0 : 0 < cs.length) : (d.write (p : Int) cs).2 = (x.write (p : Int) cs).2 ∧ Rel (d.write (p : Int) cs).1 (x.write (p : Int) cs).1 := by
  rw [Dv.write_fit hon hf h0]
  have ho : x.off = false := by rw [h.off, hon]; rfl
  rw [show x.write (p : Int) cs = ({ x with C := putK (x.fuse == 0) x.keep ((p : Int)).toNat cs cs.length x.C, off := x.fuse == 0, writes := wrap64 (x.writes + 1), fuse := if 0 < x.fuse then x.fuse - 1 else x.fuse }, if (x.fuse == 0) = true then 9 else 0) from if_neg (by rw [ho]; decide)]
  have hbd := h.bd
  cases hfu : d.fused with
  | true =>
    obtain ⟨f1, f2, f3⟩ := h.fz hon hfu
    by_cases hs : d.spare = 0
    · have ht : d.torn = true := by unfold Dv.torn; rw [hfu, hs]; rfl
      have hz : (x.fuse == 0) = true := by rw [f1, hs]; rfl
      have hb : d.burnt = { d with on := false, fused := false } := by unfold Dv.burnt; rw [if_pos hfu, if_neg (by omega)]
      rw [ht, hz, hb]
      refine ⟨rfl, ?_, rfl, (fun ho => by cases ho), (fun ho => by cases ho), ?_⟩
      · show putK true x.keep _ cs cs.length x.C = putK true d.keep _ cs cs.length d.S
        rw [f3, h.C]
      · show -1 ≤ (if 0 < x.fuse then x.fuse - 1 else x.fuse) ∧ (if 0 < x.fuse then x.fuse - 1 else x.fuse) ≤ _
        rw [if_neg (by omega)]; omega
    · have ht : d.torn = false := by unfold Dv.torn; rw [hfu, Bool.true_and]; exact decide_eq_false (by omega)
      have hz : (x.fuse == 0) = false := by rw [f1]; simpa using hs
      have hb : d.burnt = { d with spare := d.spare - 1 } := by unfold Dv.burnt; rw [if_pos hfu, if_pos (by omega)]
      rw [ht, hz, hb]
      refine ⟨rfl, ?_, ?_, fun _ _ => ⟨?_, ?_, f3⟩, fun _ hf => ?_, ?_⟩
      · show putK false x.keep _ cs cs.length x.C = putK false d.keep _ cs cs.length d.S
        rw [f3, h.C]
      · show false = !d.on; rw [hon]; rfl
      · show (if 0 < x.fuse then x.fuse - 1 else x.fuse) = d.spare - 1
        rw [if_pos (by omega), f1]
      · show 0 ≤ d.spare - 1; omega
      · have hf2 : d.fused = false := hf
        rw [hfu] at hf2; cases hf2
      · show -1 ≤ (if 0 < x.fuse then x.fuse - 1 else x.fuse) ∧ (if 0 < x.fuse then x.fuse - 1 else x.fuse) ≤ _
        rw [if_pos (by omega)]; omega
  | false =>
    have f1 := h.nf hon hfu
    have ht : d.torn = false := by unfold Dv.torn; rw [hfu]; rfl
    have hz : (x.fuse == 0) = false := by rw [f1]; rfl
    have hb : d.burnt = d := by unfold Dv.burnt; rw [if_neg (by rw [hfu]; decide)]
    rw [ht, hz, hb]
    have hput : ∀ k1 k2 : List Nt, ∀ n, putK false k1 (p : Int).toNat cs n d.S = putK false k2 (p : Int).toNat cs n d.S := fun k1 k2 n => by
      induction n with
      | zero => rfl
      | succ n ih => rw [putK, putK, ih]; rfl
    refine ⟨rfl, ?_, ?_, fun _ hf => ?_, fun _ _ => ?_, ?_⟩
    · show putK false x.keep _ cs cs.length x.C = putK false d.keep _ cs cs.length d.S
      rw [h.C]; exact hput _ _ _
    · show false = !d.on; rw [hon]; rfl
    · have hf2 : d.fused = true := hf
      rw [hfu] at hf2; cases hf2
    · show (if 0 < x.fuse then x.fuse - 1 else x.fuse) = -1
      rw [if_neg (by omega), f1]
    · show -1 ≤ (if 0 < x.fuse then x.fuse - 1 else x.fuse) ∧ (if 0 < x.fuse then x.fuse - 1 else x.fuse) ≤ _
      rw [if_neg (by omega)]; exact hbd
theorem Rel.app {d : Dv} {x : Rv} (h : Rel d x) {y : Sc} {l : List Nat} (ht : y.t ≤ d.S.length) : (y.rapp x l).2 = (y.app d l).2 ∧ (y.rapp x l).1.1 = (y.app d l).1.1 ∧ Rel (y.app d l).1.2 (y.rapp x l).1.2 := by
  have ho := h.off
  unfold Sc.app Sc.rapp
  by_cases hd : y.dead = true ∨ d.on = false
  · have hd2 : y.dead = true ∨ x.off = true := hd.imp id (fun h1 => by rw [ho, h1]; rfl)
    rw [if_pos hd, if_pos hd2]
    exact ⟨rfl, rfl, h⟩
  · have hon : d.on = true := by cases hh : d.on <;> simp_all
    have hd2 : ¬ (y.dead = true ∨ x.off = true) := fun h1 => hd (h1.imp id (fun h2 => by rw [ho, hon] at h2; cases h2))
    rw [if_neg hd, if_neg hd2]
    by_cases hcz : (cutF y.life y.era ((y.L.length + 1 : Nat) : Int) l).2 ≠ 0
    · rw [if_pos hcz, if_pos hcz]; exact ⟨rfl, rfl, h⟩
    · rw [if_neg hcz, if_neg hcz]
      have hcz0 : (cutF y.life y.era ((y.L.length + 1 : Nat) : Int) l).2 = 0 := Classical.not_not.1 hcz
      by_cases hroom : (y.t : Int) - (y.f : Int) - (y.used : Int) < (((cutF y.life y.era ((y.L.length + 1 : Nat) : Int) l).1.length : Nat) : Int)
      · rw [if_pos hroom, if_pos hroom]; exact ⟨rfl, rfl, h⟩
      · rw [if_neg hroom, if_neg hroom]
        have hfit := cut_fits (m := d.S.length) (p := y.f + y.used) hcz0 (by omega)
        obtain ⟨w1, w2⟩ := h.write hon hfit (cut_pos hcz0)
        have hw := Dv.write_fit hon hfit (cut_pos hcz0)
        cases htr : d.torn with
        | true =>
          have e9 : (d.write ((y.f + y.used : Nat) : Int) (cutF y.life y.era ((y.L.length + 1 : Nat) : Int) l).1).2 = 9 := by rw [hw, htr]; rfl
          rw [e9] at w1
          rw [if_pos rfl, if_pos (by rw [← w1]; decide)]
          exact ⟨w1.symm, rfl, w2⟩
        | false =>
          have e0 : (d.write ((y.f + y.used : Nat) : Int) (cutF y.life y.era ((y.L.length + 1 : Nat) : Int) l).1).2 = 0 := by rw [hw, htr]; rfl
          rw [e0] at w1
          rw [if_neg (show ¬ (false = true) by decide), if_neg (show ¬ (x.write ((y.f + y.used : Nat) : Int) (cutF y.life y.era ((y.L.length + 1 : Nat) : Int) l).1).2 ≠ 0 from fun h9 => h9 w1.symm)]
          exact ⟨rfl, rfl, w2⟩
end Go.Proofs.Ytiggcpfmmgmncaa
end
