import Derived.Test.YtpmnjojednbnpaaGreatDoorWf16
import Derived.Test.YtpmnjojednbnpaaGreatDoorWf22
set_option maxHeartbeats 16000000
set_option maxRecDepth 100000
set_option linter.unusedVariables false
set_option linter.unusedSimpArgs false
namespace Go.Proofs.YtpmnjojednbnpaaGreatDoor
open Go.ChangeShapes Go.WideShapes Go.ChangeAt Go.RowKit
section
theorem S8_at {l : List UInt8} {k : Nat} (h : k < (S8 l).size) (h2 : k < l.length) : (S8 l)[k] = l[k] := by
 show l.toArray[k] = l[k]
 simp
def valD (l : List UInt8) : Nat := l.foldl (fun a c => 10 * a + (c.toNat - 48)) 0
theorem valD_snoc (l : List UInt8) (c : UInt8) : valD (l ++ [c]) = 10 * valD l + (c.toNat - 48) := by simp [valD]
theorem valD_dec : ∀ (u : Nat), valD (Lib.decDigits u) = u := by
 intro u
 induction u using Nat.strongRecOn with
 | _ u ih =>
  have hd : ∀ d, d < 10 → (UInt8.ofNat (48 + d)).toNat = 48 + d := fun d hd => by
   rw [UInt8.toNat_ofNat'];omega
  rw [Lib.decDigits]
  split
  ·rename_i h
   show 10 * 0 + ((UInt8.ofNat (48 + u)).toNat - 48) = u
   rw [hd u h];omega
  ·rename_i h
   rw [valD_snoc, ih (u / 10) (by omega), hd _ (Nat.mod_lt _ (by decide))];omega
theorem valD_lt : ∀ (m : Nat) (l : List UInt8), l.length = m → (∀ c ∈ l, c.toNat ≤ 57) → valD l < 10 ^ m
 | 0, [], _, _ => by decide
 | m + 1, l, h, hc => by
  have hne : l ≠ [] := fun e => by rw [e] at h; cases h
  obtain ⟨r, c, rfl⟩ : ∃ r c, l = r ++ [c] := ⟨l.dropLast, l.getLast hne, (List.dropLast_concat_getLast hne).symm⟩;have hr : r.length = m := by simpa using h
  have ih := valD_lt m r hr fun x hx => hc x (by simp [hx]);have := hc c (by simp);rw [valD_snoc, Nat.pow_succ];omega
def negD (l : List UInt8) : Bool := decide (1 < l.length) && decide (l.getD 0 0 = 45)
def restD (l : List UInt8) : List UInt8 := l.drop (if negD l = true then 1 else 0)
def valI (l : List UInt8) : Int := if negD l = true then -(valD (restD l) : Int) else (valD (restD l) : Int)
theorem dec_len19 {n : Int} (h : In64p n) : (Lib.decDigits n.natAbs).length ≤ 19 := by
 refine (pad_dec 18 n.natAbs ?_).1;rw [show (10 : Nat) ^ (18 + 1) = 10000000000000000000 from by decide];unfold In64p at h;omega
theorem numD_back {l : List UInt8} {n : Int} (h : numD l = some n) : 1 ≤ l.length ∧ l.length ≤ 20 ∧ (∀ c ∈ restD l, 48 ≤ c.toNat ∧ c.toNat ≤ 57) ∧ n = valI l := by
 obtain ⟨h1, h2⟩ := numD_iff.1 h;have hl := dec_len19 h1;have hp := dec_len_pos n.natAbs
 by_cases hn : n < 0
 ·have e : l = 45 :: Lib.decDigits n.natAbs := by rw [← h2]; unfold Lib.itoa; rw [if_pos hn]
  have hneg : negD l = true := by rw [e]; unfold negD; simp; omega
  have hr : restD l = Lib.decDigits n.natAbs := by unfold restD; rw [hneg, e]; rfl
  refine ⟨by rw [e]; simp, by rw [e, List.length_cons]; omega, fun c hc => ?_, ?_⟩
  ·rw [hr] at hc; exact dec_digit _ c hc
  ·unfold valI; rw [hneg, if_pos rfl, hr, valD_dec]; omega
 ·have e : l = Lib.decDigits n.natAbs := by
   rw [← h2]; unfold Lib.itoa; rw [if_neg hn]
   congr 1
   omega
  have hneg : negD l = false := by
   unfold negD;rw [Bool.and_eq_false_iff];refine .inr (decide_eq_false fun e0 => ?_);have hd := dec_digit n.natAbs;rw [← e] at hd hp
   cases l with
   | nil => simp at hp
   | cons c r =>
    have h3 := hd c (by simp);have e1 : c = 45 := e0;rw [e1] at h3;exact absurd h3.1 (by decide)
  have hr : restD l = Lib.decDigits n.natAbs := by unfold restD; rw [hneg, e]; rfl
  refine ⟨by rw [e]; omega, by rw [e]; omega, fun c hc => ?_, ?_⟩
  ·rw [hr] at hc; exact dec_digit _ c hc
  ·unfold valI; rw [hneg, if_neg (by decide), hr, valD_dec]; omega
theorem numD_fin {l : List UInt8} (h1 : In64p (valI l)) (h2 : Lib.itoa (valI l) = l) : numD l = some (valI l) := numD_iff.2 ⟨h1, h2⟩
theorem numD_none {l : List UInt8} (h : ∀ n, numD l = some n → False) : numD l = none := by
 cases hd : numD l with
 | none => rfl
 | some n => exact absurd hd (fun e => h n e)
def numA (l : List UInt8) : Ending := .returned (.tuple #[.int .i64 ((numD l).getD 0), .bool (numD l).isSome])
theorem numA_none {l : List UInt8} (h : numD l = none) : Ending.returned (.tuple #[.int .i64 0, .bool false]) = numA l := by unfold numA; rw [h]; rfl
theorem numA_some {l : List UInt8} {n : Int} (h : numD l = some n) : Ending.returned (.tuple #[.int .i64 n, .bool true]) = numA l := by unfold numA; rw [h]; rfl
theorem rnumb40 (l : List UInt8) (w : World) (hl : l.length ≤ 100000) :
  Calls Tryz.prog 43 #[.string (S8 l)] w fun e w' => e = numA l ∧ Below w.heap.size w w' := by
 obtain ⟨s, hs⟩ : ∃ s, s = S8 l := ⟨_, rfl⟩;have hsz : s.size = l.length := by rw [hs]; exact S8_size l
 have HAT : Hid (∀ k (h : k < s.size), ∃ h2 : k < l.length, s[k] = l[k]) := hJz fun k h => by
  subst hs;have h2 : k < l.length := by rw [S8_size] at h; exact h
  exact ⟨h2, S8_at h h2⟩
 have HSE := hJz hs;have HSZ := hJz hsz;obtain ⟨nb, hnb⟩ : ∃ nb, negD l = nb := ⟨_, rfl⟩;obtain ⟨i0, hi0⟩ : ∃ i0 : Nat, (if nb = true then 1 else 0) = i0 := ⟨_, rfl⟩;have HNB := hJz hnb;have HI0 := hJz hi0;have HR : Hid (restD l = l.drop i0) := hJz (by unfold restD; rw [hnb, hi0]);have hbx := BB.new w false none 0 0 124;have hX0 := BigAt.zero (w.alloc (.cells #[.bool false, .slice none 0 0] 124));have hB0 := since_alloc (Below.refl _ w) (.cells #[.bool false, .slice none 0 0] 124);obtain ⟨g, hg⟩ : ∃ g, w.heap.size = g := ⟨_, rfl⟩;obtain ⟨W1, hW1⟩ : ∃ W1, w.alloc (.cells #[.bool false, .slice none 0 0] 124) = W1 := ⟨_, rfl⟩;rw [hg] at hbx hB0 ⊢;rw [hW1] at hbx hB0 hX0;have HG := hJz hg;have HW1 := hJz hW1;have HBX := hJz hbx;have HX0 := hJz hX0;have HB0 := hJz hB0;rw [← hs];clear hbx hX0 hB0 hg hW1 hs hnb hi0
 by_cases h1 : 1 < l.length
 ·have d1 : decide (1 < (l.length : Int)) = true := decide_eq_true (by omega);have h0 : 0 < s.size := by omega
  have hv0 : (((s[0].toNat : Nat) : Int) == 45) = nb := by
   obtain ⟨h2, hat⟩ := HAT.out 0 h0;rw [hat, ← HNB.out];unfold negD;rw [decide_eq_true h1, Bool.true_and, List.getD_eq_getElem?_getD, List.getElem?_eq_getElem h2, Bool.eq_iff_iff, beq_iff_eq, decide_eq_true_eq]
   show ((l[0].toNat : Nat) : Int) = 45 ↔ l[0] = 45
   constructor
   ·intro h;exact UInt8.toNat_inj.1 (by show l[0].toNat = 45; omega)
   ·intro h;rw [h]; rfl
  go_enter Tryz.func43, Tryz.ntmps43;go_upto_region 2 with fail;clear hv0 d1 h0;go_upto_region 3 with fail;rw [HW1.out, HG.out];go_upto_if 16 with fail;go_cut [6] (fun iv wx => iv = .int .i64 (i0 : Int) ∧ W1 = wx)
  case first =>
   cases nb with
   | true =>
    have h1 : i0 = 1 := HI0.out.symm;have h1 := hJz h1;go_wp2_with fail;go_meet
    case rel => exact ⟨by rw [h1.out]; rfl, rfl⟩
   | false =>
    have h1 : i0 = 0 := HI0.out.symm;have h1 := hJz h1;go_wp2_with fail;go_meet
    case rel => exact ⟨by rw [h1.out]; rfl, rfl⟩
  case rest =>
   obtain ⟨rfl, rfl⟩ := hcut
   by_cases hz : l.length = 0
   ·have dz : ((l.length : Int) == 0) = true := by rw [beq_iff_eq]; omega
    have HN : Hid (numD l = none) := hJz (numD_none fun n hn => by have := (numD_back hn).1; omega);clear hz;go_wp2_with fail;go_ret2;exact ⟨numA_none HN.out, HB0.out⟩
   have dz : ((l.length : Int) == 0) = false := by rw [beq_eq_false_iff_ne]; omega
   by_cases h20 : 20 < l.length
   ·have dm : decide (20 < (l.length : Int)) = true := decide_eq_true (by omega);have HN : Hid (numD l = none) := hJz (numD_none fun n hn => by have := (numD_back hn).2.1; omega);clear hz h20;go_wp2_with fail;go_ret2;exact ⟨numA_none HN.out, HB0.out⟩
   have dm : decide (20 < (l.length : Int)) = false := decide_eq_false (by omega)
   have hi1 : i0 ≤ l.length := by
    have := HI0.out
    split at this <;> omega
   go_wp2_with fail;clear dz dm;go_loopw [6] (fun iv wr => ∃ (k : Nat) (A : Option Addr) (n c : Nat), i0 + k ≤ l.length ∧ iv = .int .i64 ((i0 + k : Nat) : Int) ∧ (∀ x ∈ (l.drop i0).take k, 48 ≤ x.toNat ∧ x.toNat ≤ 57) ∧ BB wr g false A n c ∧ BigAt wr false A n c ((valD ((l.drop i0).take k) : Nat) : Int) ∧ (∀ b o, A = some ⟨b, o, none⟩ → 0 < n → b ≠ g) ∧ Below g w wr) (fun iv _ => l.length - (intOf iv).toNat)
   case atStart => exact ⟨0, none, 0, 0, by omega, by simp, by simp, HBX.out, by simpa [valD] using HX0.out, (fun b o e => by cases e), HB0.out⟩
   case round =>
    obtain ⟨k, A, n, c, hk, rfl, hdg, hbx, hX, hne, hB⟩ := hrel;obtain ⟨m, hm⟩ : ∃ m, i0 + k = m := ⟨_, rfl⟩;rw [hm] at hk ⊢;have HM := hJz hm;clear hm
    by_cases hkl : m < l.length
    ·have hks : m < s.size := by omega
     have hki : (m : Int) < (l.length : Int) := by omega
     obtain ⟨h2, hat⟩ := HAT.out m hks;have hk0 : (0 : Int) ≤ (m : Int) := by omega
     have hdk : k < (l.drop i0).length := by rw [List.length_drop]; have := HM.out; omega
     obtain ⟨ch, hch⟩ : ∃ ch : UInt8, l[m] = ch := ⟨_, rfl⟩
     have hdc : (l.drop i0)[k] = ch := by
      rw [List.getElem_drop, ← hch]
      congr 1
     have htk : (l.drop i0).take (k + 1) = (l.drop i0).take k ++ [ch] := by rw [take_snoc _ k hdk, hdc]
     have hmem : ch ∈ restD l := by
      rw [HR.out, ← hdc];exact List.getElem_mem hdk
     rw [hch] at hat
     obtain ⟨v, hv⟩ : ∃ v : Nat, ch.toNat = v := ⟨_, rfl⟩;have hv0 : ((s[m].toNat : Nat) : Int) = (v : Int) := by rw [hat, hv]
     clear hdc hch h2
     by_cases hlo : v < 48
     ·have d1 : decide ((v : Int) < 48) = true := decide_eq_true (by omega);have HN : Hid (numD l = none) := hJz (numD_none fun n hn => by have := ((numD_back hn).2.2.1 ch hmem).1; omega);have HBB := hJz hB;clear hdg hbx hX hne hB hat htk hmem hdk hv;go_wp2_with fail;go_ret2;exact ⟨numA_none HN.out, HBB.out⟩
     have d1 : decide ((v : Int) < 48) = false := decide_eq_false (by omega)
     by_cases hhi : 57 < v
     ·have d2 : decide (57 < (v : Int)) = true := decide_eq_true (by omega);have HN : Hid (numD l = none) := hJz (numD_none fun n hn => by have := ((numD_back hn).2.2.1 ch hmem).2; omega);have HBB := hJz hB;clear hdg hbx hX hne hB hat htk hmem hdk hv;go_wp2_with fail;go_ret2;exact ⟨numA_none HN.out, HBB.out⟩
     have d2 : decide (57 < (v : Int)) = false := decide_eq_false (by omega);obtain ⟨d, hd⟩ : ∃ d, d = v - 48 := ⟨_, rfl⟩;have HD : Hid (d < 10) := hJz (by omega);have hw1 : IntKind.u8.wrap ((v : Int) - 48) = (d : Int) := by rw [IntKind.wrap_u8']; omega
     have hw2 : IntKind.u64.wrap (d : Int) = (d : Int) := by rw [IntKind.wrap_u64]; omega
     have HCH : Hid (48 ≤ ch.toNat ∧ ch.toNat ≤ 57) := hJz (by omega);have HDV : Hid (ch.toNat - 48 = d) := hJz (by omega);have HTK := hJz htk;have HDG := hJz hdg;have hxl := valD_lt _ ((l.drop i0).take k) rfl (fun c hc => (hdg c hc).2);obtain ⟨X, hX0⟩ : ∃ X, valD ((l.drop i0).take k) = X := ⟨_, rfl⟩;rw [hX0] at hX hxl;have HXV := hJz hX0
     have HXL : Hid (X < 100000000000000000000) := hJz (by
      have h1 : ((l.drop i0).take k).length ≤ 20 := by rw [List.length_take]; have := HM.out; omega
      have h2 : 10 ^ ((l.drop i0).take k).length ≤ 10 ^ 20 := Nat.pow_le_pow_right (by decide) h1;have h3 : (10 : Nat) ^ 20 = 100000000000000000000 := by decide
      omega)
     have hn := hX.in128 (by unfold In128; have := HXL.out; omega);have hbxD := hbx.drew;have hXD := hX.drew;have hBD : Below g w wr.drew := hB.drew;clear hat hv hd htk hdg hX0 hxl hbx hX hB hdk hmem hlo hhi hne;go_upto_region 11 with fail;clear d1 d2;refine wp_region_held_drew (S := (fun V => Below g w V)) (by kernel_rfl) (by exact hBD) (fun hHeld => ?_);refine tkI 3 42 rfl (by intro w hSw; skip; go_simp <;> with_reducible rfl) hHeld ?_; simp only [pqZ];refine tkI 4 43 rfl (by intro w hSw; skip; go_simp <;> with_reducible rfl) hHeld ?_; simp only [pqZ];refine tkI 5 44 rfl (by intro w hSw; skip; go_simp <;> with_reducible rfl) hHeld ?_; simp only [pqZ];refine tkI 6 45 rfl (by intro w hSw; skip; go_simp <;> with_reducible rfl) hHeld ?_; simp only [pqZ];refine tkI 7 46 rfl (by intro w hSw; skip; go_simp <;> with_reducible rfl) hHeld ?_; simp only [pqZ];refine wpAnyH_ready (rs := [0, 1]) (by kernel_rfl) (by simp) ?_
     refine AllReadyH.cons (o := ⟨some 39, _, _, _, _, _⟩) rfl (fun K hK => ?_) (AllReadyH.cons (o := ⟨some 40, _, _, _, _, _⟩) rfl (fun K hK => ?_) AllReadyH.nil)
     ·have hHd := hHeld
      skip
      have hKeep := hHeld;obtain ⟨pg, p0, p1, _, _⟩ := _root_.id hbxD
      go_simp
      refine hK.out _ _ (by (try dsimp only); exact hKeep) (fun hHeld => ?_); clear hK K hKeep; try simp only [pqZ]
      refine rdZ 1 40 rfl (by kernel_rfl) (fun K hK => ?_)
      go_simp
      refine (nat_any 10 _ (by decide)).mono ?_;rintro e y1 ⟨⟨A1, n1, c1, rfl, _, hT1⟩, hb1⟩;have hbx1 := hbxD.below hb1;have hX1 := hXD.below hb1;have hB1 := hBD.trans (hb1.mono (Nat.le_of_lt hbxD.1));have hn1 := hT1.in128 (by unfold In128; omega);have hKeep := hB1;clear hb1;go_wp2_with fail;refine hK.out _ _ (by (try dsimp only); exact hKeep) (fun hHeld => ?_); clear hK K hKeep; try simp only [pqZ]
      refine rdZ 2 41 rfl (by kernel_rfl) (fun K hK => ?_)
      go_simp
      refine (bmul_any (X : Int) ((10 : Nat) : Int) false false A A1 n c n1 c1 y1 (by omega) (by omega) hX1 hT1).mono ?_;rintro e y2 ⟨⟨s2, A2, n2, c2, rfl, _, hM⟩, hb2⟩;have hbx2 := hbx1.below hb2;have hB2 := hB1.trans (hb2.mono (Nat.le_of_lt hbx1.1));have hn2 := hM.in128 (by unfold In128; have := HXL.out; omega);have hKeep := hB2;clear hb2;go_wp2_with fail;refine hK.out _ _ (by (try dsimp only); exact hKeep) (fun hHeld => ?_); clear hK K hKeep; try simp only [pqZ]
      refine rdZ 8 47 rfl (by kernel_rfl) (fun K hK => ?_)
      go_simp
      refine (nat_any d y2 (by have := HD.out; omega)).mono ?_;rintro e y3 ⟨⟨A3, n3, c3, rfl, _, hT3⟩, hb3⟩;have hbx3 := hbx2.below hb3;have hB3 := hB2.trans (hb3.mono (Nat.le_of_lt hbx2.1));have hM3 := hM.below hb3;have hn3 := hT3.in128 (by unfold In128; have := HD.out; omega);have hKeep := hB3;clear hb3;go_wp2_with fail;refine hK.out _ _ (by (try dsimp only); exact hKeep) (fun hHeld => ?_); clear hK K hKeep; try simp only [pqZ]
      refine rdZ 9 48 rfl (by kernel_rfl) (fun K hK => ?_)
      go_simp
      refine (badd' (by omega) (by omega) hM3 hT3).mono ?_;rintro e y4 ⟨⟨s4, A4, n4, c4, rfl, hf4, hS⟩, hb4⟩;have hbx4 := hbx3.below hb4;have hB4 := hB3.trans (hb4.mono (Nat.le_of_lt hbx3.1));obtain rfl : s4 = false := by rw [hS.neg_iff]; exact decide_eq_false (by omega)
      have hf5 : ∀ b o, A4 = some ⟨b, o, none⟩ → 0 < n4 → b ≠ g := fun b o e h0 => by have := hf4 b o e h0; have := hbx3.1; omega
      have hKeep := hB4;obtain ⟨pg4, q0, q1, r0, r1⟩ := _root_.id hbx4;clear hb4;go_wp2_with fail;refine hK.out _ _ (by (try dsimp only); exact hKeep) (fun hHeld => ?_); clear hK K hKeep; try simp only [pqZ]
      refine wpAnyH_ready (rs := [10]) (by kernel_rfl) (by simp) ?_;refine AllReadyH.cons (o := ⟨none, _, _, _, _, _⟩) rfl (fun K hK => ?_) AllReadyH.nil;have hHd := hHeld
      skip
      have hbx5 := hbx4.set2 false A4 n4 c4;have hS5 := (hS.far (p := ⟨g, 0, none⟩) hf5 (.bool false)).far (p := ⟨g, 1, none⟩) hf5 (.slice A4 n4 c4);have hKeep : Below g w ((y4.setCell ⟨g, 0, none⟩ (.bool false)).setCell ⟨g, 1, none⟩ (.slice A4 n4 c4)) := (hB4.setCell (Nat.le_refl _) _).setCell (Nat.le_refl _) _;have hB5 := hKeep
      go_simp
      refine hK.out _ _ (by (try dsimp only); exact hKeep) (fun hHeld => ?_); clear hK K hKeep; try simp only [pqZ]
      refine wpAnyH_done (by kernel_rfl) ?_ _;go_wp2_with fail;go_roundw
      case rel =>
       have hm := HM.out
       refine ⟨k + 1, A4, n4, c4, by omega, by rw [show i0 + (k + 1) = m + 1 by omega]; go_num, ?_, hbx5, ?_, hf5, hB5⟩
       ·intro x hx;rw [HTK.out] at hx
        rcases List.mem_append.1 hx with hx | hx
        ·exact HDG.out x hx
        ·rw [List.mem_singleton.1 hx]; exact HCH.out
       ·rw [HTK.out, valD_snoc, HXV.out, HDV.out];have e : ((10 * X + d : Nat) : Int) = (X : Int) * ((10 : Nat) : Int) + (d : Int) := by omega
        rw [e];exact hS5
      case measure => simp [intOf]; omega
     ·go_simp
      refine (nat_any 10 _ (by decide)).mono ?_;rintro e y1 ⟨⟨A1, n1, c1, rfl, _, hT1⟩, hb1⟩;have hbx1 := hbxD.below hb1;have hX1 := hXD.below hb1;have hB1 := hBD.trans (hb1.mono (Nat.le_of_lt hbxD.1));have hn1 := hT1.in128 (by unfold In128; omega);have hKeep := hB1;clear hb1;go_wp2_with fail;refine hK.out _ _ (by (try dsimp only); exact hKeep) (fun hHeld => ?_); clear hK K hKeep; try simp only [pqZ]
      refine rdZ 0 39 rfl (by kernel_rfl) (fun K hK => ?_);have hHd := hHeld
      skip
      have hKeep := hHeld;obtain ⟨pg, p0, p1, _, _⟩ := _root_.id hbx1
      go_simp
      refine hK.out _ _ (by (try dsimp only); exact hKeep) (fun hHeld => ?_); clear hK K hKeep; try simp only [pqZ]
      refine rdZ 2 41 rfl (by kernel_rfl) (fun K hK => ?_)
      go_simp
      refine (bmul_any (X : Int) ((10 : Nat) : Int) false false A A1 n c n1 c1 y1 (by omega) (by omega) hX1 hT1).mono ?_;rintro e y2 ⟨⟨s2, A2, n2, c2, rfl, _, hM⟩, hb2⟩;have hbx2 := hbx1.below hb2;have hB2 := hB1.trans (hb2.mono (Nat.le_of_lt hbx1.1));have hn2 := hM.in128 (by unfold In128; have := HXL.out; omega);have hKeep := hB2;clear hb2;go_wp2_with fail;refine hK.out _ _ (by (try dsimp only); exact hKeep) (fun hHeld => ?_); clear hK K hKeep; try simp only [pqZ]
      refine rdZ 8 47 rfl (by kernel_rfl) (fun K hK => ?_)
      go_simp
      refine (nat_any d y2 (by have := HD.out; omega)).mono ?_;rintro e y3 ⟨⟨A3, n3, c3, rfl, _, hT3⟩, hb3⟩;have hbx3 := hbx2.below hb3;have hB3 := hB2.trans (hb3.mono (Nat.le_of_lt hbx2.1));have hM3 := hM.below hb3;have hn3 := hT3.in128 (by unfold In128; have := HD.out; omega);have hKeep := hB3;clear hb3;go_wp2_with fail;refine hK.out _ _ (by (try dsimp only); exact hKeep) (fun hHeld => ?_); clear hK K hKeep; try simp only [pqZ]
      refine rdZ 9 48 rfl (by kernel_rfl) (fun K hK => ?_)
      go_simp
      refine (badd' (by omega) (by omega) hM3 hT3).mono ?_;rintro e y4 ⟨⟨s4, A4, n4, c4, rfl, hf4, hS⟩, hb4⟩;have hbx4 := hbx3.below hb4;have hB4 := hB3.trans (hb4.mono (Nat.le_of_lt hbx3.1));obtain rfl : s4 = false := by rw [hS.neg_iff]; exact decide_eq_false (by omega)
      have hf5 : ∀ b o, A4 = some ⟨b, o, none⟩ → 0 < n4 → b ≠ g := fun b o e h0 => by have := hf4 b o e h0; have := hbx3.1; omega
      have hKeep := hB4;obtain ⟨pg4, q0, q1, r0, r1⟩ := _root_.id hbx4;clear hb4;go_wp2_with fail;refine hK.out _ _ (by (try dsimp only); exact hKeep) (fun hHeld => ?_); clear hK K hKeep; try simp only [pqZ]
      refine wpAnyH_ready (rs := [10]) (by kernel_rfl) (by simp) ?_;refine AllReadyH.cons (o := ⟨none, _, _, _, _, _⟩) rfl (fun K hK => ?_) AllReadyH.nil;have hHd := hHeld
      skip
      have hbx5 := hbx4.set2 false A4 n4 c4;have hS5 := (hS.far (p := ⟨g, 0, none⟩) hf5 (.bool false)).far (p := ⟨g, 1, none⟩) hf5 (.slice A4 n4 c4);have hKeep : Below g w ((y4.setCell ⟨g, 0, none⟩ (.bool false)).setCell ⟨g, 1, none⟩ (.slice A4 n4 c4)) := (hB4.setCell (Nat.le_refl _) _).setCell (Nat.le_refl _) _;have hB5 := hKeep
      go_simp
      refine hK.out _ _ (by (try dsimp only); exact hKeep) (fun hHeld => ?_); clear hK K hKeep; try simp only [pqZ]
      refine wpAnyH_done (by kernel_rfl) ?_ _;go_wp2_with fail;go_roundw
      case rel =>
       have hm := HM.out
       refine ⟨k + 1, A4, n4, c4, by omega, by rw [show i0 + (k + 1) = m + 1 by omega]; go_num, ?_, hbx5, ?_, hf5, hB5⟩
       ·intro x hx;rw [HTK.out] at hx
        rcases List.mem_append.1 hx with hx | hx
        ·exact HDG.out x hx
        ·rw [List.mem_singleton.1 hx]; exact HCH.out
       ·rw [HTK.out, valD_snoc, HXV.out, HDV.out];have e : ((10 * X + d : Nat) : Int) = (X : Int) * ((10 : Nat) : Int) + (d : Int) := by omega
        rw [e];exact hS5
      case measure => simp [intOf]; omega
    ·obtain rfl : m = l.length := by omega
     have htk : (l.drop i0).take k = restD l := by
      rw [HR.out, List.take_of_length_le];rw [List.length_drop]; have := HM.out; omega
     rw [htk] at hdg hX;have hxl := valD_lt _ (restD l) rfl (fun c hc => (hdg c hc).2);obtain ⟨X, hX0⟩ : ∃ X, valD (restD l) = X := ⟨_, rfl⟩;rw [hX0] at hX hxl
     have HXL : Hid (X < 100000000000000000000) := hJz (by
      have h1 : (restD l).length ≤ 20 := by rw [HR.out, List.length_drop]; omega
      have h2 : 10 ^ (restD l).length ≤ 10 ^ 20 := Nat.pow_le_pow_right (by decide) h1;have h3 : (10 : Nat) ^ 20 = 100000000000000000000 := by decide
      omega)
     have HVI : Hid (valI l = if nb = true then -(X : Int) else (X : Int)) := hJz (by unfold valI; rw [HNB.out, hX0]);have hn := hX.in128 (by unfold In128; have := HXL.out; omega);have HBX2 := hJz hbx;have HX2 := hJz hX;have HB2 := hJz hB;have HNE2 := hJz hne;clear hdg htk hxl hX0 hbx hX hB hne HBX HX0 HB0;go_upto_if 51 with fail;go_cut [] (fun wx => ∃ s A n c, BB wx g s A n c ∧ BigAt wx s A n c (valI l) ∧ Below g w wx)
     case first =>
      cases nb with
      | true =>
       have HV : Hid (valI l = -(X : Int)) := hJz (by rw [HVI.out, if_pos rfl]);obtain ⟨pg, p0, p1, r0, r1⟩ := _root_.id HBX2.out;have HN := hJz (bneg' (by omega) HX2.out);go_wp2_with fail;refine HN.out.mono ?_;rintro e y1 ⟨⟨s1, n1, c1, rfl, hn1, hX1⟩, hb1⟩;have hbx1 := HBX2.out.below hb1;obtain ⟨qg, q0, q1, t0, t1⟩ := _root_.id hbx1;have hB1 := HB2.out.trans (hb1.mono (Nat.le_of_lt pg));have hf : ∀ b o, A = some ⟨b, o, none⟩ → 0 < n1 → b ≠ g := fun b o e h0 => HNE2.out b o e (by omega);have hcs := @cell_set;clear hb1;go_wp2_with fail;go_meet
       case rel =>
        refine ⟨s1, A, n1, c1, hbx1.set2 s1 A n1 c1, ?_, (hB1.setCell (Nat.le_refl _) _).setCell (Nat.le_refl _) _⟩;rw [HV.out];exact (hX1.far (p := ⟨g, 0, none⟩) hf (.bool s1)).far (p := ⟨g, 1, none⟩) hf (.slice A n1 c1)
      | false =>
       have HV : Hid (valI l = (X : Int)) := hJz (by rw [HVI.out, if_neg (by decide)]);go_wp2_with fail;go_meet
       case rel => exact ⟨false, A, n, c, HBX2.out, by rw [HV.out]; exact HX2.out, HB2.out⟩
     case rest =>
      obtain ⟨s1, A9, n9, c9, hbx, hX, hB⟩ := hcut;clear HBX2 HX2 HB2 HNE2;obtain ⟨pg, p0, p1, r0, r1⟩ := _root_.id hbx
      have h128 : In128 (valI l) := by
       rw [HVI.out];have := HXL.out;unfold In128
       split <;> omega
      have hn9 := hX.in128 h128;have HF := hJz (bfits_any (valI l) s1 A9 n9 c9 wc (by omega) hX);have HXK := hJz (fun V (hV : Below wc.heap.size wc V) => hX.below hV);have HBK := hJz (fun V (hV : Below wc.heap.size wc V) => hbx.below hV);have HBB := hJz (fun V (hV : Below wc.heap.size wc V) => hB.trans (hV.mono (Nat.le_of_lt pg)));have H128 := hJz h128
      by_cases hin : inN (valI l) 63
      ·have d1 : decide (inN (valI l) 63) = true := decide_eq_true hin;rw [d1] at HF;have hin := (inN_63 (valI l)).1 hin;have HIN := hJz hin;clear hX hbx hB h128 hin d1;go_wp2_with fail;refine HF.out.mono ?_;rintro e y1 ⟨rfl, hb1⟩;obtain ⟨pg1, p01, p11, _, _⟩ := HBK.out y1 hb1;have HDG := hJz (digits_any (valI l) H128.out s1 A9 n9 c9 y1 (HXK.out y1 hb1));have HB1 := hJz hb1;clear hb1 p0 p1 r0 r1 pg HF;go_wp2_with fail;refine HDG.out.mono ?_;rintro e y2 ⟨⟨r, rfl, hr⟩, hb2⟩;rw [txt_itoa] at hr;have hr := eq_S8 hr;have hb2 := since_step HB1.out hb2;obtain ⟨pg2, p02, p12, _, _⟩ := HBK.out y2 hb2;clear p01 p11 pg1 HDG
       by_cases heq : Lib.itoa (valI l) = l
       ·have hse : (r.toList == s.toList) = true := by
         rw [hr, HSE.out, heq];exact (Lib.bytes_beq_iff _ _).mpr rfl
        have HN := hJz (numD_fin HIN.out heq);have HI := hJz (rint_any (valI l) HIN.out s1 A9 n9 c9 y2 (HXK.out y2 hb2));have HB2 := hJz hb2;clear hr heq hb2;go_wp2_with fail;refine HI.out.mono ?_;rintro e y3 ⟨rfl, hb3⟩;have hB3 := HBB.out y3 (since_step HB2.out hb3);go_wp2_with fail;go_ret2;exact ⟨numA_some HN.out, hB3⟩
       ·have hse : (r.toList == s.toList) = false := by
         rw [hr, HSE.out];exact (Lib.bytes_beq_false_iff _ _).mpr (fun e => heq (S8_inj e))
        have HN : Hid (numD l = none) := hJz (numD_none fun n hn => by
         obtain ⟨_, h2⟩ := numD_iff.1 hn;rw [(numD_back hn).2.2.2] at h2
         exact heq h2)
        have hB3 := HBB.out y2 hb2;clear hr heq hb2;go_wp2_with fail;go_ret2;exact ⟨numA_none HN.out, hB3⟩
      ·have d1 : decide (inN (valI l) 63) = false := decide_eq_false hin;rw [d1] at HF
       have HN : Hid (numD l = none) := hJz (numD_none fun n hn => by
        have h1 := (numD_iff.1 hn).1;rw [(numD_back hn).2.2.2] at h1
        exact hin ((inN_63 (valI l)).2 h1))
       clear hX hbx hB h128 hin d1;go_wp2_with fail;refine HF.out.mono ?_;rintro e y1 ⟨rfl, hb1⟩;have hB3 := HBB.out y1 hb1;clear hb1;go_wp2_with fail;go_ret2;exact ⟨numA_none HN.out, hB3⟩
 ·have d1 : decide (1 < (l.length : Int)) = false := decide_eq_false (by omega)
  have hf : nb = false := by
   rw [← HNB.out];unfold negD;rw [decide_eq_false h1, Bool.false_and]
  subst hf;go_enter Tryz.func43, Tryz.ntmps43;go_upto_region 2 with fail;clear d1;go_upto_region 3 with fail;rw [HW1.out, HG.out];go_upto_if 16 with fail;go_cut [6] (fun iv wx => iv = .int .i64 (i0 : Int) ∧ W1 = wx)
  case first =>
   have h1 : i0 = 0 := HI0.out.symm;have h1 := hJz h1;go_wp2_with fail;go_meet
   case rel => exact ⟨by rw [h1.out]; rfl, rfl⟩
  case rest =>
   obtain ⟨rfl, rfl⟩ := hcut
   by_cases hz : l.length = 0
   ·have dz : ((l.length : Int) == 0) = true := by rw [beq_iff_eq]; omega
    have HN : Hid (numD l = none) := hJz (numD_none fun n hn => by have := (numD_back hn).1; omega);clear hz;go_wp2_with fail;go_ret2;exact ⟨numA_none HN.out, HB0.out⟩
   have dz : ((l.length : Int) == 0) = false := by rw [beq_eq_false_iff_ne]; omega
   by_cases h20 : 20 < l.length
   ·have dm : decide (20 < (l.length : Int)) = true := decide_eq_true (by omega);have HN : Hid (numD l = none) := hJz (numD_none fun n hn => by have := (numD_back hn).2.1; omega);clear hz h20;go_wp2_with fail;go_ret2;exact ⟨numA_none HN.out, HB0.out⟩
   have dm : decide (20 < (l.length : Int)) = false := decide_eq_false (by omega)
   have hi1 : i0 ≤ l.length := by
    have := HI0.out
    split at this <;> omega
   go_wp2_with fail;clear dz dm;go_loopw [6] (fun iv wr => ∃ (k : Nat) (A : Option Addr) (n c : Nat), i0 + k ≤ l.length ∧ iv = .int .i64 ((i0 + k : Nat) : Int) ∧ (∀ x ∈ (l.drop i0).take k, 48 ≤ x.toNat ∧ x.toNat ≤ 57) ∧ BB wr g false A n c ∧ BigAt wr false A n c ((valD ((l.drop i0).take k) : Nat) : Int) ∧ (∀ b o, A = some ⟨b, o, none⟩ → 0 < n → b ≠ g) ∧ Below g w wr) (fun iv _ => l.length - (intOf iv).toNat)
   case atStart => exact ⟨0, none, 0, 0, by omega, by simp, by simp, HBX.out, by simpa [valD] using HX0.out, (fun b o e => by cases e), HB0.out⟩
   case round =>
    obtain ⟨k, A, n, c, hk, rfl, hdg, hbx, hX, hne, hB⟩ := hrel;obtain ⟨m, hm⟩ : ∃ m, i0 + k = m := ⟨_, rfl⟩;rw [hm] at hk ⊢;have HM := hJz hm;clear hm
    by_cases hkl : m < l.length
    ·have hks : m < s.size := by omega
     have hki : (m : Int) < (l.length : Int) := by omega
     obtain ⟨h2, hat⟩ := HAT.out m hks;have hk0 : (0 : Int) ≤ (m : Int) := by omega
     have hdk : k < (l.drop i0).length := by rw [List.length_drop]; have := HM.out; omega
     obtain ⟨ch, hch⟩ : ∃ ch : UInt8, l[m] = ch := ⟨_, rfl⟩
     have hdc : (l.drop i0)[k] = ch := by
      rw [List.getElem_drop, ← hch]
      congr 1
     have htk : (l.drop i0).take (k + 1) = (l.drop i0).take k ++ [ch] := by rw [take_snoc _ k hdk, hdc]
     have hmem : ch ∈ restD l := by
      rw [HR.out, ← hdc];exact List.getElem_mem hdk
     rw [hch] at hat
     obtain ⟨v, hv⟩ : ∃ v : Nat, ch.toNat = v := ⟨_, rfl⟩;have hv0 : ((s[m].toNat : Nat) : Int) = (v : Int) := by rw [hat, hv]
     clear hdc hch h2
     by_cases hlo : v < 48
     ·have d1 : decide ((v : Int) < 48) = true := decide_eq_true (by omega);have HN : Hid (numD l = none) := hJz (numD_none fun n hn => by have := ((numD_back hn).2.2.1 ch hmem).1; omega);have HBB := hJz hB;clear hdg hbx hX hne hB hat htk hmem hdk hv;go_wp2_with fail;go_ret2;exact ⟨numA_none HN.out, HBB.out⟩
     have d1 : decide ((v : Int) < 48) = false := decide_eq_false (by omega)
     by_cases hhi : 57 < v
     ·have d2 : decide (57 < (v : Int)) = true := decide_eq_true (by omega);have HN : Hid (numD l = none) := hJz (numD_none fun n hn => by have := ((numD_back hn).2.2.1 ch hmem).2; omega);have HBB := hJz hB;clear hdg hbx hX hne hB hat htk hmem hdk hv;go_wp2_with fail;go_ret2;exact ⟨numA_none HN.out, HBB.out⟩
     have d2 : decide (57 < (v : Int)) = false := decide_eq_false (by omega);obtain ⟨d, hd⟩ : ∃ d, d = v - 48 := ⟨_, rfl⟩;have HD : Hid (d < 10) := hJz (by omega);have hw1 : IntKind.u8.wrap ((v : Int) - 48) = (d : Int) := by rw [IntKind.wrap_u8']; omega
     have hw2 : IntKind.u64.wrap (d : Int) = (d : Int) := by rw [IntKind.wrap_u64]; omega
     have HCH : Hid (48 ≤ ch.toNat ∧ ch.toNat ≤ 57) := hJz (by omega);have HDV : Hid (ch.toNat - 48 = d) := hJz (by omega);have HTK := hJz htk;have HDG := hJz hdg;have hxl := valD_lt _ ((l.drop i0).take k) rfl (fun c hc => (hdg c hc).2);obtain ⟨X, hX0⟩ : ∃ X, valD ((l.drop i0).take k) = X := ⟨_, rfl⟩;rw [hX0] at hX hxl;have HXV := hJz hX0
     have HXL : Hid (X < 100000000000000000000) := hJz (by
      have h1 : ((l.drop i0).take k).length ≤ 20 := by rw [List.length_take]; have := HM.out; omega
      have h2 : 10 ^ ((l.drop i0).take k).length ≤ 10 ^ 20 := Nat.pow_le_pow_right (by decide) h1;have h3 : (10 : Nat) ^ 20 = 100000000000000000000 := by decide
      omega)
     have hn := hX.in128 (by unfold In128; have := HXL.out; omega);have hbxD := hbx.drew;have hXD := hX.drew;have hBD : Below g w wr.drew := hB.drew;clear hat hv hd htk hdg hX0 hxl hbx hX hB hdk hmem hlo hhi hne;go_upto_region 11 with fail;clear d1 d2;refine wp_region_held_drew (S := (fun V => Below g w V)) (by kernel_rfl) (by exact hBD) (fun hHeld => ?_);refine tkI 3 42 rfl (by intro w hSw; skip; go_simp <;> with_reducible rfl) hHeld ?_; simp only [pqZ];refine tkI 4 43 rfl (by intro w hSw; skip; go_simp <;> with_reducible rfl) hHeld ?_; simp only [pqZ];refine tkI 5 44 rfl (by intro w hSw; skip; go_simp <;> with_reducible rfl) hHeld ?_; simp only [pqZ];refine tkI 6 45 rfl (by intro w hSw; skip; go_simp <;> with_reducible rfl) hHeld ?_; simp only [pqZ];refine tkI 7 46 rfl (by intro w hSw; skip; go_simp <;> with_reducible rfl) hHeld ?_; simp only [pqZ];refine wpAnyH_ready (rs := [0, 1]) (by kernel_rfl) (by simp) ?_
     refine AllReadyH.cons (o := ⟨some 39, _, _, _, _, _⟩) rfl (fun K hK => ?_) (AllReadyH.cons (o := ⟨some 40, _, _, _, _, _⟩) rfl (fun K hK => ?_) AllReadyH.nil)
     ·have hHd := hHeld
      skip
      have hKeep := hHeld;obtain ⟨pg, p0, p1, _, _⟩ := _root_.id hbxD
      go_simp
      refine hK.out _ _ (by (try dsimp only); exact hKeep) (fun hHeld => ?_); clear hK K hKeep; try simp only [pqZ]
      refine rdZ 1 40 rfl (by kernel_rfl) (fun K hK => ?_)
      go_simp
      refine (nat_any 10 _ (by decide)).mono ?_;rintro e y1 ⟨⟨A1, n1, c1, rfl, _, hT1⟩, hb1⟩;have hbx1 := hbxD.below hb1;have hX1 := hXD.below hb1;have hB1 := hBD.trans (hb1.mono (Nat.le_of_lt hbxD.1));have hn1 := hT1.in128 (by unfold In128; omega);have hKeep := hB1;clear hb1;go_wp2_with fail;refine hK.out _ _ (by (try dsimp only); exact hKeep) (fun hHeld => ?_); clear hK K hKeep; try simp only [pqZ]
      refine rdZ 2 41 rfl (by kernel_rfl) (fun K hK => ?_)
      go_simp
      refine (bmul_any (X : Int) ((10 : Nat) : Int) false false A A1 n c n1 c1 y1 (by omega) (by omega) hX1 hT1).mono ?_;rintro e y2 ⟨⟨s2, A2, n2, c2, rfl, _, hM⟩, hb2⟩;have hbx2 := hbx1.below hb2;have hB2 := hB1.trans (hb2.mono (Nat.le_of_lt hbx1.1));have hn2 := hM.in128 (by unfold In128; have := HXL.out; omega);have hKeep := hB2;clear hb2;go_wp2_with fail;refine hK.out _ _ (by (try dsimp only); exact hKeep) (fun hHeld => ?_); clear hK K hKeep; try simp only [pqZ]
      refine rdZ 8 47 rfl (by kernel_rfl) (fun K hK => ?_)
      go_simp
      refine (nat_any d y2 (by have := HD.out; omega)).mono ?_;rintro e y3 ⟨⟨A3, n3, c3, rfl, _, hT3⟩, hb3⟩;have hbx3 := hbx2.below hb3;have hB3 := hB2.trans (hb3.mono (Nat.le_of_lt hbx2.1));have hM3 := hM.below hb3;have hn3 := hT3.in128 (by unfold In128; have := HD.out; omega);have hKeep := hB3;clear hb3;go_wp2_with fail;refine hK.out _ _ (by (try dsimp only); exact hKeep) (fun hHeld => ?_); clear hK K hKeep; try simp only [pqZ]
      refine rdZ 9 48 rfl (by kernel_rfl) (fun K hK => ?_)
      go_simp
      refine (badd' (by omega) (by omega) hM3 hT3).mono ?_;rintro e y4 ⟨⟨s4, A4, n4, c4, rfl, hf4, hS⟩, hb4⟩;have hbx4 := hbx3.below hb4;have hB4 := hB3.trans (hb4.mono (Nat.le_of_lt hbx3.1));obtain rfl : s4 = false := by rw [hS.neg_iff]; exact decide_eq_false (by omega)
      have hf5 : ∀ b o, A4 = some ⟨b, o, none⟩ → 0 < n4 → b ≠ g := fun b o e h0 => by have := hf4 b o e h0; have := hbx3.1; omega
      have hKeep := hB4;obtain ⟨pg4, q0, q1, r0, r1⟩ := _root_.id hbx4;clear hb4;go_wp2_with fail;refine hK.out _ _ (by (try dsimp only); exact hKeep) (fun hHeld => ?_); clear hK K hKeep; try simp only [pqZ]
      refine wpAnyH_ready (rs := [10]) (by kernel_rfl) (by simp) ?_;refine AllReadyH.cons (o := ⟨none, _, _, _, _, _⟩) rfl (fun K hK => ?_) AllReadyH.nil;have hHd := hHeld
      skip
      have hbx5 := hbx4.set2 false A4 n4 c4;have hS5 := (hS.far (p := ⟨g, 0, none⟩) hf5 (.bool false)).far (p := ⟨g, 1, none⟩) hf5 (.slice A4 n4 c4);have hKeep : Below g w ((y4.setCell ⟨g, 0, none⟩ (.bool false)).setCell ⟨g, 1, none⟩ (.slice A4 n4 c4)) := (hB4.setCell (Nat.le_refl _) _).setCell (Nat.le_refl _) _;have hB5 := hKeep
      go_simp
      refine hK.out _ _ (by (try dsimp only); exact hKeep) (fun hHeld => ?_); clear hK K hKeep; try simp only [pqZ]
      refine wpAnyH_done (by kernel_rfl) ?_ _;go_wp2_with fail;go_roundw
      case rel =>
       have hm := HM.out
       refine ⟨k + 1, A4, n4, c4, by omega, by rw [show i0 + (k + 1) = m + 1 by omega]; go_num, ?_, hbx5, ?_, hf5, hB5⟩
       ·intro x hx;rw [HTK.out] at hx
        rcases List.mem_append.1 hx with hx | hx
        ·exact HDG.out x hx
        ·rw [List.mem_singleton.1 hx]; exact HCH.out
       ·rw [HTK.out, valD_snoc, HXV.out, HDV.out];have e : ((10 * X + d : Nat) : Int) = (X : Int) * ((10 : Nat) : Int) + (d : Int) := by omega
        rw [e];exact hS5
      case measure => simp [intOf]; omega
     ·go_simp
      refine (nat_any 10 _ (by decide)).mono ?_;rintro e y1 ⟨⟨A1, n1, c1, rfl, _, hT1⟩, hb1⟩;have hbx1 := hbxD.below hb1;have hX1 := hXD.below hb1;have hB1 := hBD.trans (hb1.mono (Nat.le_of_lt hbxD.1));have hn1 := hT1.in128 (by unfold In128; omega);have hKeep := hB1;clear hb1;go_wp2_with fail;refine hK.out _ _ (by (try dsimp only); exact hKeep) (fun hHeld => ?_); clear hK K hKeep; try simp only [pqZ]
      refine rdZ 0 39 rfl (by kernel_rfl) (fun K hK => ?_);have hHd := hHeld
      skip
      have hKeep := hHeld;obtain ⟨pg, p0, p1, _, _⟩ := _root_.id hbx1
      go_simp
      refine hK.out _ _ (by (try dsimp only); exact hKeep) (fun hHeld => ?_); clear hK K hKeep; try simp only [pqZ]
      refine rdZ 2 41 rfl (by kernel_rfl) (fun K hK => ?_)
      go_simp
      refine (bmul_any (X : Int) ((10 : Nat) : Int) false false A A1 n c n1 c1 y1 (by omega) (by omega) hX1 hT1).mono ?_;rintro e y2 ⟨⟨s2, A2, n2, c2, rfl, _, hM⟩, hb2⟩;have hbx2 := hbx1.below hb2;have hB2 := hB1.trans (hb2.mono (Nat.le_of_lt hbx1.1));have hn2 := hM.in128 (by unfold In128; have := HXL.out; omega);have hKeep := hB2;clear hb2;go_wp2_with fail;refine hK.out _ _ (by (try dsimp only); exact hKeep) (fun hHeld => ?_); clear hK K hKeep; try simp only [pqZ]
      refine rdZ 8 47 rfl (by kernel_rfl) (fun K hK => ?_)
      go_simp
      refine (nat_any d y2 (by have := HD.out; omega)).mono ?_;rintro e y3 ⟨⟨A3, n3, c3, rfl, _, hT3⟩, hb3⟩;have hbx3 := hbx2.below hb3;have hB3 := hB2.trans (hb3.mono (Nat.le_of_lt hbx2.1));have hM3 := hM.below hb3;have hn3 := hT3.in128 (by unfold In128; have := HD.out; omega);have hKeep := hB3;clear hb3;go_wp2_with fail;refine hK.out _ _ (by (try dsimp only); exact hKeep) (fun hHeld => ?_); clear hK K hKeep; try simp only [pqZ]
      refine rdZ 9 48 rfl (by kernel_rfl) (fun K hK => ?_)
      go_simp
      refine (badd' (by omega) (by omega) hM3 hT3).mono ?_;rintro e y4 ⟨⟨s4, A4, n4, c4, rfl, hf4, hS⟩, hb4⟩;have hbx4 := hbx3.below hb4;have hB4 := hB3.trans (hb4.mono (Nat.le_of_lt hbx3.1));obtain rfl : s4 = false := by rw [hS.neg_iff]; exact decide_eq_false (by omega)
      have hf5 : ∀ b o, A4 = some ⟨b, o, none⟩ → 0 < n4 → b ≠ g := fun b o e h0 => by have := hf4 b o e h0; have := hbx3.1; omega
      have hKeep := hB4;obtain ⟨pg4, q0, q1, r0, r1⟩ := _root_.id hbx4;clear hb4;go_wp2_with fail;refine hK.out _ _ (by (try dsimp only); exact hKeep) (fun hHeld => ?_); clear hK K hKeep; try simp only [pqZ]
      refine wpAnyH_ready (rs := [10]) (by kernel_rfl) (by simp) ?_;refine AllReadyH.cons (o := ⟨none, _, _, _, _, _⟩) rfl (fun K hK => ?_) AllReadyH.nil;have hHd := hHeld
      skip
      have hbx5 := hbx4.set2 false A4 n4 c4;have hS5 := (hS.far (p := ⟨g, 0, none⟩) hf5 (.bool false)).far (p := ⟨g, 1, none⟩) hf5 (.slice A4 n4 c4);have hKeep : Below g w ((y4.setCell ⟨g, 0, none⟩ (.bool false)).setCell ⟨g, 1, none⟩ (.slice A4 n4 c4)) := (hB4.setCell (Nat.le_refl _) _).setCell (Nat.le_refl _) _;have hB5 := hKeep
      go_simp
      refine hK.out _ _ (by (try dsimp only); exact hKeep) (fun hHeld => ?_); clear hK K hKeep; try simp only [pqZ]
      refine wpAnyH_done (by kernel_rfl) ?_ _;go_wp2_with fail;go_roundw
      case rel =>
       have hm := HM.out
       refine ⟨k + 1, A4, n4, c4, by omega, by rw [show i0 + (k + 1) = m + 1 by omega]; go_num, ?_, hbx5, ?_, hf5, hB5⟩
       ·intro x hx;rw [HTK.out] at hx
        rcases List.mem_append.1 hx with hx | hx
        ·exact HDG.out x hx
        ·rw [List.mem_singleton.1 hx]; exact HCH.out
       ·rw [HTK.out, valD_snoc, HXV.out, HDV.out];have e : ((10 * X + d : Nat) : Int) = (X : Int) * ((10 : Nat) : Int) + (d : Int) := by omega
        rw [e];exact hS5
      case measure => simp [intOf]; omega
    ·obtain rfl : m = l.length := by omega
     have htk : (l.drop i0).take k = restD l := by
      rw [HR.out, List.take_of_length_le];rw [List.length_drop]; have := HM.out; omega
     rw [htk] at hdg hX;have hxl := valD_lt _ (restD l) rfl (fun c hc => (hdg c hc).2);obtain ⟨X, hX0⟩ : ∃ X, valD (restD l) = X := ⟨_, rfl⟩;rw [hX0] at hX hxl
     have HXL : Hid (X < 100000000000000000000) := hJz (by
      have h1 : (restD l).length ≤ 20 := by rw [HR.out, List.length_drop]; omega
      have h2 : 10 ^ (restD l).length ≤ 10 ^ 20 := Nat.pow_le_pow_right (by decide) h1;have h3 : (10 : Nat) ^ 20 = 100000000000000000000 := by decide
      omega)
     have HVI : Hid (valI l = if false = true then -(X : Int) else (X : Int)) := hJz (by unfold valI; rw [HNB.out, hX0]);have hn := hX.in128 (by unfold In128; have := HXL.out; omega);have HBX2 := hJz hbx;have HX2 := hJz hX;have HB2 := hJz hB;have HNE2 := hJz hne;clear hdg htk hxl hX0 hbx hX hB hne HBX HX0 HB0;go_upto_if 51 with fail;go_cut [] (fun wx => ∃ s A n c, BB wx g s A n c ∧ BigAt wx s A n c (valI l) ∧ Below g w wx)
     case first =>
       have HV : Hid (valI l = (X : Int)) := hJz (by rw [HVI.out, if_neg (by decide)]);go_wp2_with fail;go_meet
       case rel => exact ⟨false, A, n, c, HBX2.out, by rw [HV.out]; exact HX2.out, HB2.out⟩
     case rest =>
      obtain ⟨s1, A9, n9, c9, hbx, hX, hB⟩ := hcut;clear HBX2 HX2 HB2 HNE2;obtain ⟨pg, p0, p1, r0, r1⟩ := _root_.id hbx
      have h128 : In128 (valI l) := by
       rw [HVI.out];have := HXL.out;unfold In128
       split <;> omega
      have hn9 := hX.in128 h128;have HF := hJz (bfits_any (valI l) s1 A9 n9 c9 wc (by omega) hX);have HXK := hJz (fun V (hV : Below wc.heap.size wc V) => hX.below hV);have HBK := hJz (fun V (hV : Below wc.heap.size wc V) => hbx.below hV);have HBB := hJz (fun V (hV : Below wc.heap.size wc V) => hB.trans (hV.mono (Nat.le_of_lt pg)));have H128 := hJz h128
      by_cases hin : inN (valI l) 63
      ·have d1 : decide (inN (valI l) 63) = true := decide_eq_true hin;rw [d1] at HF;have hin := (inN_63 (valI l)).1 hin;have HIN := hJz hin;clear hX hbx hB h128 hin d1;go_wp2_with fail;refine HF.out.mono ?_;rintro e y1 ⟨rfl, hb1⟩;obtain ⟨pg1, p01, p11, _, _⟩ := HBK.out y1 hb1;have HDG := hJz (digits_any (valI l) H128.out s1 A9 n9 c9 y1 (HXK.out y1 hb1));have HB1 := hJz hb1;clear hb1 p0 p1 r0 r1 pg HF;go_wp2_with fail;refine HDG.out.mono ?_;rintro e y2 ⟨⟨r, rfl, hr⟩, hb2⟩;rw [txt_itoa] at hr;have hr := eq_S8 hr;have hb2 := since_step HB1.out hb2;obtain ⟨pg2, p02, p12, _, _⟩ := HBK.out y2 hb2;clear p01 p11 pg1 HDG
       by_cases heq : Lib.itoa (valI l) = l
       ·have hse : (r.toList == s.toList) = true := by
         rw [hr, HSE.out, heq];exact (Lib.bytes_beq_iff _ _).mpr rfl
        have HN := hJz (numD_fin HIN.out heq);have HI := hJz (rint_any (valI l) HIN.out s1 A9 n9 c9 y2 (HXK.out y2 hb2));have HB2 := hJz hb2;clear hr heq hb2;go_wp2_with fail;refine HI.out.mono ?_;rintro e y3 ⟨rfl, hb3⟩;have hB3 := HBB.out y3 (since_step HB2.out hb3);go_wp2_with fail;go_ret2;exact ⟨numA_some HN.out, hB3⟩
       ·have hse : (r.toList == s.toList) = false := by
         rw [hr, HSE.out];exact (Lib.bytes_beq_false_iff _ _).mpr (fun e => heq (S8_inj e))
        have HN : Hid (numD l = none) := hJz (numD_none fun n hn => by
         obtain ⟨_, h2⟩ := numD_iff.1 hn;rw [(numD_back hn).2.2.2] at h2
         exact heq h2)
        have hB3 := HBB.out y2 hb2;clear hr heq hb2;go_wp2_with fail;go_ret2;exact ⟨numA_none HN.out, hB3⟩
      ·have d1 : decide (inN (valI l) 63) = false := decide_eq_false hin;rw [d1] at HF
       have HN : Hid (numD l = none) := hJz (numD_none fun n hn => by
        have h1 := (numD_iff.1 hn).1;rw [(numD_back hn).2.2.2] at h1
        exact hin ((inN_63 (valI l)).2 h1))
       clear hX hbx hB h128 hin d1;go_wp2_with fail;refine HF.out.mono ?_;rintro e y1 ⟨rfl, hb1⟩;have hB3 := HBB.out y1 hb1;clear hb1;go_wp2_with fail;go_ret2;exact ⟨numA_none HN.out, hB3⟩
end
end Go.Proofs.YtpmnjojednbnpaaGreatDoor
