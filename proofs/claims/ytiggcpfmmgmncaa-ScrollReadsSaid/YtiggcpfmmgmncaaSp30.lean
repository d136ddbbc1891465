import Derived.Laws.IdiomStrings
import Derived.Lib.SlBytesConst
import Derived.Test.YtiggcpfmmgmncaaSp28
import Derived.Test.YtiggcpfmmgmncaaSp29
section
namespace Go.Proofs.Ytiggcpfmmgmncaa
open Go.ChangeShapes Go.WideShapes Go.ChangeAt Go.RowKit
set_option linter.unusedVariables false
set_option linter.unusedSimpArgs false

set_option maxHeartbeats 8000000 in
set_option maxRecDepth 100000 in
theorem lives8_any (w : World) :
    Calls Try.prog 29 #[] w fun e w' => e = .returned (.bool true) ∧ Below w.heap.size w w' := by
  have HN := Lib.hid (dnew_any 9 w (by decide) (by decide))
  have kc := fun (w : World) (C : Array Value) (n c : Nat) => Lib.run_convert_bytes_const (P := Try.prog) w 36 5 C n c Try.underlying36 Try.underlying5
  obtain ⟨cs, D, h1, h2, h3, h4, h5, h6, h7⟩ := live8_fact
  have H1 := Lib.hid h1
  have H2 := Lib.hid h2
  have H3 := Lib.hid h3
  have H4 := Lib.hid h4
  have H5 := Lib.hid h5
  have H6 := Lib.hid h6
  have H7 := Lib.hid h7
  have HA := Lib.hid live8_a
  have HB := Lib.hid live8_b
  clear h1 h2 h3 h4 h5 h6 h7
  go_enter Try.func29, Try.ntmps29
  go_wp2_with fail
  refine HN.out.mono ?_
  rintro e w1 ⟨b, g, rfl, ⟨K, kc2, hd1⟩, hb1⟩
  have ho := sopen_ok 1 9 1 0 w1 hd1 hb1.size (by decide) (by decide) (by decide) (by decide) (by decide) (by decide) (by rw [HA.out]; decide)
  rw [HB.out] at ho
  have HO := Lib.hid ho
  have HD1 := Lib.hid hd1
  have HB1 := Lib.hid hb1
  clear ho hd1 hb1
  go_wp2_with fail
  refine HO.out.mono ?_
  rintro e w2 ⟨s, A2, c2, R2, rfl, hs2, hb2⟩
  have hd2 := HD1.out.below hb2
  have hB2 := since_step HB1.out hb2
  have hsl : SlF (w2.alloc (.cells #[.int .u8 97] 5 (1, 2))) b g (some ⟨w2.heap.size, 0, none⟩) (by8 [97]) := ⟨Sl.newMark w2 [.int .u8 97] 5 (1, 2), fun _ p hp => by cases hp; have := hd2.lt; exact ⟨fun h => by simp at h; omega, fun h => by simp at h; omega⟩⟩
  have ha := sapp_go (some ⟨w2.heap.size, 0, none⟩) 1 [97] (w2.alloc (.cells #[.int .u8 97] 5 (1, 2))) (hd2.below (since_alloc (Below.refl _ _) _)) (hs2.below (since_alloc (Below.refl _ _) _)) (since_alloc hB2 _).size (by decide) (by decide) (by decide) hsl (by intro x hx; simp at hx; omega) rfl rfl (by show (cutF 1 0 ((0 + 1 : Nat) : Int) [97]).2 = 0; rw [H1.out]) (by show ¬ ((9 : Nat) : Int) - ((1 : Nat) : Int) - ((0 : Nat) : Int) < (((cutF 1 0 ((0 + 1 : Nat) : Int) [97]).1.length : Nat) : Int); rw [H1.out]; show ¬ _ < ((cs.length : Nat) : Int); rw [H2.out]; decide) (by show ((Dv.new 9).write ((1 + 0 : Nat) : Int) (cutF 1 0 ((0 + 1 : Nat) : Int) [97]).1).2 = 0; rw [H1.out]; show ((Dv.new 9).write 1 cs).2 = 0; rw [H3.out]) (by show (cutF 1 0 ((0 + 1 : Nat) : Int) [97]).1.length ≤ 255; rw [H1.out]; show cs.length ≤ 255; rw [H2.out]; decide) (by decide)
  rw [show (cutF (⟨1, 9, 1, 0, [], 0, false⟩ : Sc).life (⟨1, 9, 1, 0, [], 0, false⟩ : Sc).era (((⟨1, 9, 1, 0, [], 0, false⟩ : Sc).L.length + 1 : Nat) : Int) [97]).1 = cs by show (cutF 1 0 ((0 + 1 : Nat) : Int) [97]).1 = cs; rw [H1.out]] at ha
  have HAP := Lib.hid ha
  have HGE : Hid (∀ x ∈ b :: g :: s :: ((⟨1, 9, 1, 0, [], 0, false⟩ : Sc).row A2 c2).ownBlock.toList, w.heap.size ≤ x) := Lib.hid (by
    intro x hx
    simp only [List.mem_cons, Option.mem_toList] at hx
    rcases hx with rfl | rfl | rfl | hx
    · exact HD1.out.ge.1
    · exact HD1.out.ge.2
    · exact hs2.ge
    · exact own_ge hs2.own x hx)
  have HB2 := Lib.hid (since_alloc hB2 (.cells #[.int .u8 97] 5 (1, 2)))
  clear ha hs2 hb2 hd2 hB2 hsl
  go_wp2_with fail
  refine HAP.out.mono ?_
  rintro e w3 ⟨rfl, A3, c3, R3, hs3, hd3, hc3, _⟩
  have HB3 := Lib.hid (HB2.out.trans (hc3.below HB2.out.size HGE.out))
  rw [show ((Dv.new 9).write (((⟨1, 9, 1, 0, [], 0, false⟩ : Sc).f + (⟨1, 9, 1, 0, [], 0, false⟩ : Sc).used : Nat) : Int) cs).1 = D from by show ((Dv.new 9).write 1 cs).1 = D; rw [H3.out]] at hd3
  have HD3 := Lib.hid hd3
  have ho2 := sopen_ok 1 9 2 0 w3 hd3 HB3.out.size (by decide) (by rw [H4.out]; decide) (by decide) (by decide) (by decide) (by decide) (by show newestN D.S 1 8 < 2; rw [H5.out]; decide)
  rw [H6.out] at ho2
  have HO2 := Lib.hid ho2
  clear ho2 hd3 hc3 hs3
  go_wp2_with fail
  refine HO2.out.mono ?_
  rintro e w4 ⟨s2, A4, c4, R4, rfl, hs4, hb4⟩
  have HB4 := Lib.hid (since_step HB3.out hb4)
  have HD4 := Lib.hid (HD3.out.below hb4)
  have hR4 : ∀ r ∈ R4, r.l.length ≤ 100000 := fun r hr => by
    have h : r.l ∈ R4.map RowS.l := List.mem_map.2 ⟨r, hr, rfl⟩
    rw [hs4.map] at h
    have h : r.l = [97] := by simpa using h
    rw [h]; decide
  have HRC := Lib.hid (srecords_any w4 hs4 hR4)
  have HS4 := Lib.hid hs4
  clear hs4 hb4 hR4
  go_wp2_with fail
  refine HRC.out.mono ?_
  rintro e w5 ⟨⟨A5, c5, S5, rfl, own5, map5, rows5⟩, hb5⟩
  have HB5 := Lib.hid (since_step HB4.out hb5)
  have hl5 : S5.length = 1 := by have h := congrArg List.length map5; simpa using h
  have hbz : Below w5.heap.size w5 ((w5.alloc (.cells #[.int .u8 97] 5 (1, 2))).alloc (.cells #[.slice (some ⟨w5.heap.size, 0, none⟩) 1 1] 36)) := since_alloc (since_alloc (Below.refl _ _) _) _
  have hsame := rsame8_any A5 (some ⟨w5.heap.size + 1, 0, none⟩) c5 1 S5 [(⟨some ⟨w5.heap.size, 0, none⟩, 1, [97]⟩ : RowS Nat)] _ (by omega) (show 1 ≤ 1000000 by decide) (Sl.of_own (own_below own5 hbz)) (by
      have h := Sl.new_ (w5.alloc (.cells #[.int .u8 97] 5 (1, 2))) [.slice (some ⟨w5.heap.size, 0, none⟩) 1 1] 36
      rw [World.size_alloc] at h
      exact h)
    (fun r hr => ⟨Sl.of_own (own_below (rows5 r hr) hbz), by
      have h : r.l ∈ S5.map RowS.l := List.mem_map.2 ⟨r, hr, rfl⟩
      rw [map5] at h
      have h : r.l = [97] := by simpa using h
      rw [h]; decide⟩)
    (fun r hr => by
      obtain rfl : r = ⟨some ⟨w5.heap.size, 0, none⟩, 1, [97]⟩ := by simpa using hr
      exact ⟨(Sl.newMark w5 [.int .u8 97] 5 (1, 2)).below (since_alloc (Below.refl _ _) _), show 1 ≤ 1000000 by decide⟩)
  change Calls _ _ #[.slice A5 S5.length c5, .slice (some ⟨w5.heap.size + 1, 0, none⟩) 1 1] _ _ at hsame
  rw [show decide (S5.map RowS.l = [(⟨some ⟨w5.heap.size, 0, none⟩, 1, [97]⟩ : RowS Nat)].map RowS.l) = true by rw [map5]; rfl] at hsame
  have HSAME := Lib.hid hsame
  have HS5 := Lib.hid ((HS4.out.below hb5).below hbz)
  have HD5 := Lib.hid ((HD4.out.below hb5).below hbz)
  have HB6 := Lib.hid (since_step HB5.out hbz)
  clear hsame hbz own5 rows5 hb5 map5 hl5
  go_wp2_with fail
  refine HSAME.out.mono ?_
  rintro e w6 ⟨rfl, hb6⟩
  have hus := sused_any w6 (HS5.out.below hb6)
  change Calls _ _ _ _ (fun e w' => e = .returned (.int .i64 1) ∧ _) at hus
  have HUS := Lib.hid hus
  clear hus
  have HD6 := Lib.hid (HD5.out.below hb6)
  have HB7 := Lib.hid (since_step HB6.out hb6)
  clear hb6
  go_wp2_with fail
  refine HUS.out.mono ?_
  rintro e w7 ⟨rfl, hb7⟩
  have hnw := snewest_ok 0 9 w7 (HD6.out.below hb7) (by decide) (by rw [H4.out]; decide)
  rw [show newestN D.S 0 (9 - 0) = 1 from H7.out] at hnw
  have HNW := Lib.hid hnw
  have HB8 := Lib.hid (since_step HB7.out hb7)
  clear hb7 hnw
  go_wp2_with fail
  refine HNW.out.mono ?_
  rintro e w8 ⟨rfl, hb8⟩
  have HB9 := Lib.hid (since_step HB8.out hb8)
  clear hb8
  go_wp2_with fail
  go_ret
  exact ⟨rfl, HB9.out⟩
end Go.Proofs.Ytiggcpfmmgmncaa
end
section
namespace Go.Proofs.Ytiggcpfmmgmncaa
open Go.ChangeShapes Go.WideShapes Go.ChangeAt Go.RowKit
set_option linter.unusedVariables false
set_option linter.unusedSimpArgs false

theorem takeF_local {S T : List (List Nat)} {i : Int} {n : Nat} (h : ∀ j : Nat, j < n → frD S (i + (j : Int)) = frD T (i + (j : Int))) : takeF S i n = takeF T i n := by
  induction n with
  | zero => rfl
  | succ n ih => unfold takeF; rw [ih (fun j hj => h j (by omega)), h n (by omega)]
theorem readF_local {S T : List (List Nat)} (hl : S.length = T.length) {a t : Nat} (h : ∀ i, a ≤ i → i < t → S[i]? = T[i]?) : readF S a t = readF T a t := by
  by_cases hat : a < t
  · have hf : ∀ j : Nat, a + j < t → frD S ((a : Int) + (j : Int)) = frD T ((a : Int) + (j : Int)) := fun j hj => by
      rw [show (a : Int) + (j : Int) = ((a + j : Nat) : Int) by omega]
      exact frD_eq hl (by rw [Int.toNat_natCast]; exact h (a + j) (by omega) hj)
    have h0 := hf 0 (by omega)
    rw [show (a : Int) + ((0 : Nat) : Int) = (a : Int) by omega] at h0
    unfold readF
    rw [h0]
    cases hfr : frD T a with
    | none => rfl
    | some f =>
      simp only
      by_cases hp : (t : Int) - (a : Int) < f.parts
      · rw [if_pos hp, if_pos hp]
      · have hok := (Fr.ok_iff f).1 (frD_some hfr).2.2.2
        rw [if_neg hp, if_neg hp, takeF_local (fun j hj => hf j (by omega))]
  · rw [readF_ge (by omega), readF_ge (by omega)]
theorem standF_local {S T : List (List Nat)} (hl : S.length = T.length) {p each odd : Nat} (h : ∀ i, p + odd * each ≤ i → i < p + odd * each + each → S[i]? = T[i]?) : standF S p each odd = standF T p each odd := by
  unfold standF
  rw [readF_local hl h]
structure Inv9 (S : List (List Nat)) (era life : Nat) (was : List Nat) : Prop where
  len : S.length = 20
  low : ∀ (i : Int) (f : Fr), frD S i = some f → f.life < (life : Int)
  cur : era = 0 → was = [] ∧ standF S 2 9 0 = none ∧ standF S 2 9 1 = none
  at_ : 0 < era → standF S 2 9 (era % 2) = some ((era : Int), was) ∧ (standF S 2 9 ((era + 1) % 2) = none ∨ ∃ m l, standF S 2 9 ((era + 1) % 2) = some (m, l) ∧ m < (era : Int))
def Torn9 (S T : List (List Nat)) (P n life era : Nat) (b : List Nat) : Prop := T.length = S.length ∧ ∀ i, T[i]? = S[i]? ∨ (P ≤ i ∧ i < P + n ∧ T[i]? = some (sealed (piece (life : Int) (era : Int) 1 b n (i - P)).body))
theorem Inv9.step {S T : List (List Nat)} {era life : Nat} {was b : List Nat} (h : Inv9 S era life was) {n : Nat} (hn : partsN b.length = n) (hn9 : n ≤ 9) (hok : (piece (life : Int) ((era + 1 : Nat) : Int) 1 b n 0).ok = true)
    (ht : Torn9 S T (2 + (era + 1) % 2 * 9) n life (era + 1) b) : Inv9 T (era + 1) (life + 1) b ∨ Inv9 T era (life + 1) was := by
  obtain ⟨hl, hi⟩ := ht
  have hp := partsN_pos b.length
  obtain ⟨P, hP⟩ : ∃ P, 2 + (era + 1) % 2 * 9 = P := ⟨_, rfl⟩
  rw [hP] at hi
  have hP2 : P = 2 ∨ P = 11 := by omega
  have hlen := h.len
  have hlow : ∀ (i : Int) (f : Fr), frD T i = some f → f.life < ((life + 1 : Nat) : Int) := fun i f hf => by
    obtain ⟨h0, h1, h2, _⟩ := frD_some hf
    obtain ⟨k, rfl⟩ : ∃ k : Nat, i = (k : Int) := ⟨i.toNat, by omega⟩
    rcases hi k with e | ⟨e1, e2, e3⟩
    · rw [frD_eq hl (by simpa using e)] at hf
      have := h.low _ _ hf
      omega
    · have hk : k < T.length := by omega
      rw [List.getElem?_eq_getElem hk] at e3
      rw [frD_at hk, Option.some.inj e3, frB_enc ((piece_ok (by omega) (by omega)).trans hok)] at hf
      have := Option.some.inj hf
      rw [← this]
      show (life : Int) < _
      omega
  -- the other place
  have hoth : standF T 2 9 (era % 2) = standF S 2 9 (era % 2) := standF_local hl (fun i h1 h2 => by
    rcases hi i with e | ⟨e1, e2, e3⟩
    · exact e
    · exfalso; rcases (by omega : era % 2 = 0 ∧ (era + 1) % 2 = 1 ∨ era % 2 = 1 ∧ (era + 1) % 2 = 0) with ⟨m0, m1⟩ | ⟨m0, m1⟩ <;> rw [m0] at h1 h2 <;> rw [m1] at hP <;> omega)
  have hrd := readF_torn (tt := ((P + 9 : Nat) : Int)) hl hn (by omega) hok (by omega) (by omega) hi (fun i f _ _ hf => h.low i f hf)
  have hst : standF T 2 9 ((era + 1) % 2) = some (((era + 1 : Nat) : Int), b) ∨ standF T 2 9 ((era + 1) % 2) = none ∨ standF T 2 9 ((era + 1) % 2) = standF S 2 9 ((era + 1) % 2) := by
    unfold standF
    rw [hP]
    rcases hrd with e | e | e
    · left
      rw [e]
      simp only
      have e1 : (piece (life : Int) ((era + 1 : Nat) : Int) 1 b n 0).seq = 1 ∧ (piece (life : Int) ((era + 1 : Nat) : Int) 1 b n 0).era ≠ 0 ∧ (piece (life : Int) ((era + 1 : Nat) : Int) 1 b n 0).era % 2 = (((era + 1) % 2 : Nat) : Int) := ⟨rfl, by show ((era + 1 : Nat) : Int) ≠ 0; omega, by show ((era + 1 : Nat) : Int) % 2 = _; omega⟩
      rw [if_pos e1]; rfl
    · right; left; rw [e]
    · right; right; rw [e]
  have hm2 : (era + 1 + 1) % 2 = era % 2 := by omega
  rcases hst with e | e | e
  · left
    refine ⟨hl.trans hlen, hlow, fun h0 => absurd h0 (by omega), fun _ => ⟨e, ?_⟩⟩
    rw [hm2, hoth]
    by_cases h0 : era = 0
    · obtain ⟨_, e0, e1⟩ := h.cur h0
      left; subst h0; exact e0
    · right
      exact ⟨_, _, (h.at_ (by omega)).1, by omega⟩
  · right
    refine ⟨hl.trans hlen, hlow, fun h0 => ?_, fun h0 => ?_⟩
    · obtain ⟨c0, e0, e1⟩ := h.cur h0
      subst h0
      exact ⟨c0, by rw [show (0 : Nat) = 0 % 2 from rfl, hoth]; exact e0, e⟩
    · obtain ⟨e0, e1⟩ := h.at_ h0
      exact ⟨by rw [hoth]; exact e0, .inl e⟩
  · right
    refine ⟨hl.trans hlen, hlow, fun h0 => ?_, fun h0 => ?_⟩
    · obtain ⟨c0, e0, e1⟩ := h.cur h0
      subst h0
      exact ⟨c0, by rw [show (0 : Nat) = 0 % 2 from rfl, hoth]; exact e0, by rw [show (1 : Nat) = (0 + 1) % 2 from rfl, e]; exact e1⟩
    · obtain ⟨e0, e1⟩ := h.at_ h0
      exact ⟨by rw [hoth]; exact e0, by rw [e]; exact e1⟩
theorem Inv9.whole {S T : List (List Nat)} {era life : Nat} {was b : List Nat} (h : Inv9 S era life was) {n : Nat} (hn : partsN b.length = n) (hn9 : n ≤ 9) (hok : (piece (life : Int) ((era + 1 : Nat) : Int) 1 b n 0).ok = true)
    (ht : Torn9 S T (2 + (era + 1) % 2 * 9) n life (era + 1) b) (hw : ∀ j, j < n → T[2 + (era + 1) % 2 * 9 + j]? = some (sealed (piece (life : Int) ((era + 1 : Nat) : Int) 1 b n j).body)) : Inv9 T (era + 1) (life + 1) b := by
  have hlen := h.len
  have htl := ht.1
  have hr := readF_new (S := T) (P := 2 + (era + 1) % 2 * 9) (tt := ((2 + (era + 1) % 2 * 9 + 9 : Nat) : Int)) hn (by omega) hok (by omega) (by omega) hw
  have hst : standF T 2 9 ((era + 1) % 2) = some (((era + 1 : Nat) : Int), b) := by
    unfold standF
    rw [hr]
    simp only
    have e1 : (piece (life : Int) ((era + 1 : Nat) : Int) 1 b n 0).seq = 1 ∧ (piece (life : Int) ((era + 1 : Nat) : Int) 1 b n 0).era ≠ 0 ∧ (piece (life : Int) ((era + 1 : Nat) : Int) 1 b n 0).era % 2 = (((era + 1) % 2 : Nat) : Int) := ⟨rfl, by show ((era + 1 : Nat) : Int) ≠ 0; omega, by show ((era + 1 : Nat) : Int) % 2 = _; omega⟩
    rw [if_pos e1]; rfl
  rcases h.step hn hn9 hok ht with h1 | h1
  · exact h1
  · exfalso
    by_cases h0 : era = 0
    · obtain ⟨_, e0, e1⟩ := h1.cur h0
      subst h0
      rw [show (0 + 1) % 2 = 1 from rfl, e1] at hst
      cases hst
    · rcases (h1.at_ (by omega)).2 with e | ⟨m, l, e, hm⟩
      · rw [e] at hst; cases hst
      · rw [e] at hst
        have := Option.some.inj hst
        injection this with h2 h3
        omega
theorem cells_at {life era seq : Int} {b : List Nat} {n j : Nat} (h : j < n) : (cellsF life era seq b n n)[j]? = some (sealed (piece life era seq b n j).body) := by
  unfold cellsF
  rw [List.getElem?_map, List.getElem?_range h]; rfl
theorem cells_len (life era seq : Int) (b : List Nat) (n : Nat) : (cellsF life era seq b n n).length = n := by simp [cellsF]
end Go.Proofs.Ytiggcpfmmgmncaa
end
