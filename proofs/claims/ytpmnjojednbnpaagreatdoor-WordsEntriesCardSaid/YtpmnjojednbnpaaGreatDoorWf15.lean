import Derived.Test.YtpmnjojednbnpaaGreatDoorWf14
set_option maxHeartbeats 16000000
set_option maxRecDepth 100000
set_option linter.unusedVariables false
set_option linter.unusedSimpArgs false
namespace Go.Proofs.YtpmnjojednbnpaaGreatDoor
open Go.ChangeShapes Go.WideShapes Go.ChangeAt Go.RowKit
section
structure Pz where
  z : List Int
  nums : List Int
  P : List (List UInt8)
  bad : Bool
def stepZ (d : Pz) (f : Nat) : Pz := ⟨(fillP f d.P d.bad d.z).1, if f = 78 then valsP d.P else d.nums, (fillP f d.P d.bad d.z).2.1, (fillP f d.P d.bad d.z).2.2⟩
def beginZ (l : List UInt8) : Pz :=
  let a := wordP (splD 32 l) false
  let c := wordP a.2.1 a.2.2
  ⟨[opB a.1, (valP c.1).1, 0, 0, 0, 0, 0, 0, 0, 0, 0, 0, 0], [], c.2.1, c.2.2 || (valP c.1).2⟩
def parseZ (l : List UInt8) : Pz := (fldL (opB (wordP (splD 32 l) false).1)).foldl stepZ (beginZ l)
def okP (l : List UInt8) : Bool := !(parseZ l).bad && (okZ (parseZ l).z (parseZ l).nums.length && decide (lineB (parseZ l).z (parseZ l).nums = l))
def PRes (w' : World) (e : Ending) (ok : Bool) (z nums : List Int) : Prop :=
  if ok = true then ∃ A c, e = .returned (.tuple #[.agg (cbox z (.slice A nums.length c)), .int .i64 0]) ∧ nums.length ≤ c ∧ c ≤ maxLen ∧ Sl w' A (ints .i64 nums)
  else e = .returned (.tuple #[.agg #[.int .i64 0, .int .i64 0, .int .i64 0, .int .i64 0, .int .i64 0, .int .i64 0, .int .i64 0, .int .i64 0, .int .i64 0, .int .i64 0, .int .i64 0, .int .i64 0, .int .i64 0, .slice none 0 0], .int .i64 3])
def Few40 (P : List (List UInt8)) : Prop := P.length ≤ 1000 ∧ ∀ l ∈ P, l.length ≤ 1000
theorem wordP_few {P : List (List UInt8)} {bad : Bool} (h : Few40 P) : Few40 (wordP P bad).2.1 ∧ (wordP P bad).1.length ≤ 1000 := by
 obtain ⟨h1, h2⟩ := wordP_len P bad h.2;refine ⟨⟨?_, h2⟩, h1⟩
 match P, h with
 | [], _ => simp [wordP]
 | x :: r, h => have := h.1; simp only [wordP, List.length_cons] at *; omega
theorem fillP_few {f : Nat} {P : List (List UInt8)} {bad : Bool} {z : List Int} (h : Few40 P) : Few40 (fillP f P bad z).2.1 := by
 unfold fillP
 split
 ·exact ⟨by simp, (fun l hl => by cases hl)⟩
 ·split
  ·exact (wordP_few h).1
  ·exact (wordP_few h).1
theorem putS_in : ∀ (l : List ((Nat × Int) × List UInt8)) (q : List Int × Bool), (∀ i, In64p (q.1.getD i 0)) → ∀ i, In64p ((l.foldl putS q).1.getD i 0)
 | [], _, h => h
 | s :: r, q, h => by
  refine putS_in r _ (fun i => ?_)
  show In64p ((q.1.set s.1.1 (valP s.2).1).getD i 0)
  rw [List.getD_eq_getElem?_getD, List.getElem?_set]
  split
  ·split
   ·exact valP_in _
   ·exact ⟨by decide, by decide⟩
  ·rw [← List.getD_eq_getElem?_getD]; exact h i
theorem fillP_in {f : Nat} {P : List (List UInt8)} {bad : Bool} {z : List Int} (h : ∀ i, In64p (z.getD i 0)) : ∀ i, In64p ((fillP f P bad z).1.getD i 0) := by
 unfold fillP
 split
 ·exact h
 ·split
  ·exact putS_in _ _ h
  ·exact h
theorem valsP_in (P : List (List UInt8)) : ∀ x ∈ valsP P, In64p x := fun x hx => by
 obtain ⟨l, _, rfl⟩ := List.mem_map.1 hx;exact valP_in l
theorem CB.iterW {w : World} {b IT k : Nat} {z : List Int} {v : Value} {s : ByteArray} (h : CB w b z v) (hI : w.heap[IT]? = some (.stringIter s k)) (k2 : Nat) : CB (w.iterAt IT s k2) b z v :=
 ⟨by rw [Lib.iterAt_other _ _ _ _ _ (fun e => by subst e; rw [h.blk] at hI; cases hI)]; exact h.blk, h.len⟩
theorem RdS.iterW {w : World} {g IT k c : Nat} {A : Option Addr} {P : List (List UInt8)} {bad : Bool} {s : ByteArray} (h : RdS w g A c P bad) (hI : w.heap[IT]? = some (.stringIter s k)) (k2 : Nat) : RdS (w.iterAt IT s k2) g A c P bad :=
 ⟨by rw [Lib.iterAt_other _ _ _ _ _ (fun e => by subst e; rw [h.blk] at hI; cases hI)]; exact h.blk, h.sl.iterAt hI k2, h.cap, h.cm, h.nil, h.far⟩
theorem own_iterW {w : World} {b e size n IT k k2 : Nat} {v : Value} {xs : List Value} {s : ByteArray} (h : w.ownsRow b e size v n xs) (hI : w.heap[IT]? = some (.stringIter s k)) : (w.iterAt IT s k2).ownsRow b e size v n xs := by
 refine ⟨h.1, ?_⟩
 rcases h.2 with h | ⟨g, cap, cur, hv, h1, hg, rest⟩
 ·exact .inl h
 ·exact .inr ⟨g, cap, cur, hv, h1, (Lib.iterAt_other _ _ _ _ _ (fun e => by subst e; rw [hg] at hI; cases hI)).trans hg, rest⟩
theorem Chg.iterW {g IT k : Nat} {row : Option Nat} {w w' : World} (h : Chg g row w w') (hge : w.heap.size ≤ IT) (s : ByteArray) : Chg g row w (w'.iterAt IT s k) :=
 ⟨h.os, h.tape, h.output, by rw [Lib.iterAt_size]; exact h.size, fun j hj h1 h2 => (Lib.iterAt_other _ _ _ _ _ (by omega)).trans (h.block j hj h1 h2)⟩
theorem own_cap40 {w : World} {base : Nat} {e : TypeId} {size n c : Nat} {A : Option Addr} {xs : List Value} (h : w.ownsRow base e size (.slice A n c) n xs) : n ≤ c ∧ c ≤ maxLen := by
 rcases h.2 with ⟨hv, h0⟩ | ⟨g, cap, cur, hv, hg, hh, hnc, hcm, _⟩
 ·injection hv with e1 e2 e3; subst e3; subst h0; exact ⟨Nat.le_refl _, by decide⟩
 ·injection hv with e1 e2 e3; subst e3; exact ⟨hnc, hcm⟩
theorem own_bsW {w : World} {b b2 e size n : Nat} {v : Value} {xs : List Value} (h : w.ownsRow b e size v n xs) (hb : b2 ≤ b) : w.ownsRow b2 e size v n xs := by
 refine ⟨h.1, ?_⟩
 rcases h.2 with h | ⟨g, cap, cur, hv, h1, rest⟩
 ·exact .inl h
 ·exact .inr ⟨g, cap, cur, hv, Nat.le_trans hb h1, rest⟩
theorem rparseP (l : List UInt8) (w : World) (hl : l.length ≤ 900) (hE : EvB w.heap.size w) :
  Calls Tryz.prog 10 #[.string (S8 l)] w fun e w' => PRes w' e (okP l) (parseZ l).z (parseZ l).nums ∧ Below w.heap.size w w' := by
 have hb0 := since_alloc (Below.refl _ w) (.cells #[.int .i64 0, .int .i64 0, .int .i64 0, .int .i64 0, .int .i64 0, .int .i64 0, .int .i64 0, .int .i64 0, .int .i64 0, .int .i64 0, .int .i64 0, .int .i64 0, .int .i64 0, .slice none 0 0] 26);have hx0 := heap_alloc_new w (.cells #[.int .i64 0, .int .i64 0, .int .i64 0, .int .i64 0, .int .i64 0, .int .i64 0, .int .i64 0, .int .i64 0, .int .i64 0, .int .i64 0, .int .i64 0, .int .i64 0, .int .i64 0, .slice none 0 0] 26);obtain ⟨q0, hq0⟩ : ∃ q0, w.heap.size = q0 := ⟨_, rfl⟩;have hsz0 : (w.alloc (.cells #[.int .i64 0, .int .i64 0, .int .i64 0, .int .i64 0, .int .i64 0, .int .i64 0, .int .i64 0, .int .i64 0, .int .i64 0, .int .i64 0, .int .i64 0, .int .i64 0, .int .i64 0, .slice none 0 0] 26)).heap.size = q0 + 1 := by rw [World.size_alloc, hq0]
 have HQ0 := hJz hq0;rw [hq0] at hx0 hb0 hE ⊢;have HE := hJz hE;have hsp := wsplit 32 l (w.alloc (.cells #[.int .i64 0, .int .i64 0, .int .i64 0, .int .i64 0, .int .i64 0, .int .i64 0, .int .i64 0, .int .i64 0, .int .i64 0, .int .i64 0, .int .i64 0, .int .i64 0, .int .i64 0, .slice none 0 0] 26)) (hE _ hb0) (by omega);have hfew : Few40 (splD 32 l) := ⟨by have := splD_len 32 l; omega, fun x hx => by have := splD_piece 32 l x hx; omega⟩
 -- what is read, in plain words
 obtain ⟨P0, hP0⟩ : ∃ P0, splD 32 l = P0 := ⟨_, rfl⟩;obtain ⟨x0, P1, bd1, h1⟩ : ∃ x P bd, wordP P0 false = (x, P, bd) := ⟨_, _, _, rfl⟩;obtain ⟨x1, P2, bd2, h2⟩ : ∃ x P bd, wordP P1 bd1 = (x, P, bd) := ⟨_, _, _, rfl⟩;have hf1 := wordP_few (bad := false) (by rw [← hP0]; exact hfew : Few40 P0);rw [h1] at hf1;have hf2 := wordP_few (bad := bd1) hf1.1;rw [h2] at hf2;simp only at hf1 hf2;obtain ⟨op, hop⟩ : ∃ op, opB x0 = op := ⟨_, rfl⟩;obtain ⟨n1, b1, hv1⟩ : ∃ n b, valP x1 = (n, b) := ⟨_, _, rfl⟩;have hn1 : In64p n1 := by have := valP_in x1; rw [hv1] at this; exact this
 have hopr := opB_range x0;rw [hop] at hopr
 have hbeg : beginZ l = ⟨[op, n1, 0, 0, 0, 0, 0, 0, 0, 0, 0, 0, 0], [], P2, bd2 || b1⟩ := by
  unfold beginZ;rw [hP0, h1];simp only;rw [h2];simp only;rw [hop, hv1]
 have hpz : parseZ l = (fldL op).foldl stepZ ⟨[op, n1, 0, 0, 0, 0, 0, 0, 0, 0, 0, 0, 0], [], P2, bd2 || b1⟩ := by
  unfold parseZ;rw [hbeg, hP0, h1];simp only;rw [hop]
 obtain ⟨D, hD⟩ : ∃ D, parseZ l = D := ⟨_, rfl⟩;have HOK : Hid (okP l = (!D.bad && (okZ D.z D.nums.length && decide (lineB D.z D.nums = l)))) := hJz (by unfold okP; rw [hD]);rw [hD] at hpz ⊢;have HPZ := hJz hpz;have HF1 := hJz hf1;have HF2 := hJz hf2;have HN1 := hJz hn1;rw [hP0] at hsp;have HSP := hJz hsp;have HP0n : Hid (P0.length ≤ 1000) := hJz (by rw [← hP0]; exact hfew.1);have HW1 := hJz (fun g A c V (h : RdS V g A c P0 false) => rword g A c P0 false V h);rw [h1] at HW1;have HW2 := hJz (fun g A c V (h : RdS V g A c P1 bd1) => rword g A c P1 bd1 V h);rw [h2] at HW2;have HOP := hJz (fun V (h : Ev V) => wop x0 V h);rw [hop] at HOP;have HV1 := hJz (fun g A c V (h : RdS V g A c P2 bd2) (hE : Ev V) => rvalue g A c P2 bd2 x1 V h (by have := HF2.out.2; omega) hE);rw [hv1] at HV1;simp only at HW1 HW2 HV1;have HX0 := hJz hx0;have HB0 := hJz hb0;have HSZ0 := hJz hsz0;have hop0 : 0 ≤ op := hopr.1;have hop1 : op ≤ 31 := hopr.2;clear hE hsp hfew hP0 h1 h2 hf1 hf2 hop hv1 hn1 hopr hbeg hpz hD hx0 hb0 hq0 hsz0;go_enter Tryz.func10, Tryz.ntmps10;go_wp2_with fail;refine HSP.out.mono ?_;rintro e v1 ⟨rfl, rfl⟩;rw [HSZ0.out, HQ0.out];have hal1 := since_alloc (Below.refl _ (w.alloc (.cells #[.int .i64 0, .int .i64 0, .int .i64 0, .int .i64 0, .int .i64 0, .int .i64 0, .int .i64 0, .int .i64 0, .int .i64 0, .int .i64 0, .int .i64 0, .int .i64 0, .int .i64 0, .slice none 0 0] 26))) (.cells (strs P0).toArray 9);have hp1 := heap_alloc_new (w.alloc (.cells #[.int .i64 0, .int .i64 0, .int .i64 0, .int .i64 0, .int .i64 0, .int .i64 0, .int .i64 0, .int .i64 0, .int .i64 0, .int .i64 0, .int .i64 0, .int .i64 0, .int .i64 0, .slice none 0 0] 26)) (.cells (strs P0).toArray 9);have hz1 := World.size_alloc (w.alloc (.cells #[.int .i64 0, .int .i64 0, .int .i64 0, .int .i64 0, .int .i64 0, .int .i64 0, .int .i64 0, .int .i64 0, .int .i64 0, .int .i64 0, .int .i64 0, .int .i64 0, .int .i64 0, .slice none 0 0] 26)) (.cells (strs P0).toArray 9);rw [HSZ0.out] at hal1 hp1 hz1;obtain ⟨V1, hV1⟩ : ∃ V1, (w.alloc (.cells #[.int .i64 0, .int .i64 0, .int .i64 0, .int .i64 0, .int .i64 0, .int .i64 0, .int .i64 0, .int .i64 0, .int .i64 0, .int .i64 0, .int .i64 0, .int .i64 0, .int .i64 0, .slice none 0 0] 26)).alloc (.cells (strs P0).toArray 9) = V1 := ⟨_, rfl⟩;rw [hV1] at hal1 hp1 hz1;have HV1E := hJz hV1;have hx1 := (hal1.block q0 (Nat.lt_succ_self _)).trans HX0.out;have hB1 : Below q0 w V1 := HB0.out.trans (hal1.mono (Nat.le_succ _));have hal2 := since_alloc (Below.refl _ V1) (.cells #[.slice (some ⟨q0 + 1, 0, none⟩) P0.length P0.length, .bool false] 88);have hr2 := heap_alloc_new V1 (.cells #[.slice (some ⟨q0 + 1, 0, none⟩) P0.length P0.length, .bool false] 88);have hz2 := World.size_alloc V1 (.cells #[.slice (some ⟨q0 + 1, 0, none⟩) P0.length P0.length, .bool false] 88);rw [hz1] at hal2 hr2 hz2;obtain ⟨V2, hV2⟩ : ∃ V2, V1.alloc (.cells #[.slice (some ⟨q0 + 1, 0, none⟩) P0.length P0.length, .bool false] 88) = V2 := ⟨_, rfl⟩;rw [hV2] at hal2 hr2 hz2;have HV2E := hJz hV2;have hp2 := (hal2.block (q0 + 1) (by omega)).trans hp1;have hx2 := (hal2.block q0 (by omega)).trans hx1;have hB2 : Below q0 w V2 := hB1.trans (hal2.mono (by omega))
 have hR2 : RdS V2 (q0 + 2) (some ⟨q0 + 1, 0, none⟩) P0.length P0 false := by
  refine ⟨hr2, fun hne => ⟨q0 + 1, 0, rfl, fun j u hu => ?_⟩, Nat.le_refl _, by have := HP0n.out; unfold maxLen; omega, (fun e => by cases e), (fun b o e => by injection e with e; injection e with e _; omega)⟩;rw [Nat.zero_add, cell_of_row V2 (q0 + 1) j _ _ (0, 0) hp2];simpa using hu
 have HR2 := hJz hR2;have HB2 := hJz hB2;have HX2 := hJz hx2;have HZ1 := hJz hz1;have HZ2 := hJz hz2;have HEV2 : Hid (∀ V, Below q0 w V → Ev V) := hJz fun V hV => HE.out V hV;clear hal1 hp1 hz1 hV1 hx1 hB1 hal2 hr2 hz2 hV2 hp2 hx2 hB2 hR2 HSP HX0 HB0;go_upto_region 2 with fail;rw [HV1E.out, HV2E.out, HQ0.out, show q0 + 1 + 1 = q0 + 2 from rfl];have HC := hJz (HW1.out (q0 + 2) _ _ V2 HR2.out);go_wp2_with fail;refine HC.out.mono ?_;rintro e v3 ⟨rfl, ⟨A3, c3, hR3⟩, hC3⟩;have hB3 := HB2.out.trans (hC3.below (by rw [HZ2.out]; omega) (by omega) (fun b e => by cases e));have hx3 := (hC3.block q0 (by rw [HZ2.out]; omega) (by omega) (fun e => by cases e)).trans HX2.out;have hsz3 := hC3.size;rw [HZ2.out] at hsz3;have HC2 := hJz (HOP.out v3 (HEV2.out v3 hB3));have HR3 := hJz hR3;have HB3 := hJz hB3;have HX3 := hJz hx3;have HSZ3 := hJz hsz3;clear hR3 hC3 hB3 hx3 hsz3 HC HR2 HB2 HX2;go_wp2_with fail;refine HC2.out.mono ?_;rintro e v4 ⟨rfl, hb4⟩;have hR4 := HR3.out.below hb4;have hB4 := HB3.out.trans (hb4.mono (by have := HSZ3.out; omega));have hx4 := (hb4.block q0 (by have := HSZ3.out; omega)).trans HX3.out;have hsz4 := Nat.le_trans HSZ3.out hb4.size;have hal := since_alloc (Below.refl _ v4) (.cells #[.int .i64 op, .int .i64 0, .int .i64 0, .int .i64 0, .int .i64 0, .int .i64 0, .int .i64 0, .int .i64 0, .int .i64 0, .int .i64 0, .int .i64 0, .int .i64 0, .int .i64 0, .slice none 0 0] 26);have hcb := heap_alloc_new v4 (.cells #[.int .i64 op, .int .i64 0, .int .i64 0, .int .i64 0, .int .i64 0, .int .i64 0, .int .i64 0, .int .i64 0, .int .i64 0, .int .i64 0, .int .i64 0, .int .i64 0, .int .i64 0, .slice none 0 0] 26);have hzz := World.size_alloc v4 (.cells #[.int .i64 op, .int .i64 0, .int .i64 0, .int .i64 0, .int .i64 0, .int .i64 0, .int .i64 0, .int .i64 0, .int .i64 0, .int .i64 0, .int .i64 0, .int .i64 0, .int .i64 0, .slice none 0 0] 26);obtain ⟨b, hb⟩ : ∃ b, v4.heap.size = b := ⟨_, rfl⟩;obtain ⟨V5, hV5⟩ : ∃ V5, v4.alloc (.cells #[.int .i64 op, .int .i64 0, .int .i64 0, .int .i64 0, .int .i64 0, .int .i64 0, .int .i64 0, .int .i64 0, .int .i64 0, .int .i64 0, .int .i64 0, .int .i64 0, .int .i64 0, .slice none 0 0] 26) = V5 := ⟨_, rfl⟩;have hR5 := hR4.below hal;have hB5 := hB4.trans (hal.mono (by omega));have hx5 := (hal.block q0 (by omega)).trans hx4;rw [hV5] at hcb hR5 hB5 hx5 hzz;rw [hb] at hcb hzz;have hgb : q0 + 2 < b := by omega
 have hC5 : CB V5 b [op, 0, 0, 0, 0, 0, 0, 0, 0, 0, 0, 0, 0] (.slice none 0 0) := ⟨hcb, rfl⟩;have HBE := hJz hb;have HV5E := hJz hV5;have HR5 := hJz hR5;have HB5 := hJz hB5;have HX5 := hJz hx5;have HC5 := hJz hC5;have HZ5 := hJz hzz;clear hb4 hR4 hB4 hx4 hsz4 hal hcb hzz hb hV5 hR5 hB5 hx5 hC5 HC2 HR3 HB3 HX3 HSZ3;go_upto_region 3 with fail;rw [HV5E.out, HBE.out];have HC := hJz (HW2.out (q0 + 2) _ _ V5 HR5.out);go_wp2_with fail;refine HC.out.mono ?_;rintro e v6 ⟨rfl, ⟨A6, c6, hR6⟩, hC6⟩;have hB6 := HB5.out.trans (hC6.below (by rw [HZ5.out]; omega) (by omega) (fun b e => by cases e));have hx6 := (hC6.block q0 (by rw [HZ5.out]; omega) (by omega) (fun e => by cases e)).trans HX5.out;have hcb6 := HC5.out.offG hC6 hgb;have HV := hJz (HV1.out (q0 + 2) A6 c6 v6 hR6 (HEV2.out v6 hB6));have HB6 := hJz hB6;have HX6 := hJz hx6;have HC6 := hJz hcb6;clear hR6 hC6 hB6 hx6 hcb6 HC HR5 HB5 HX5 HC5;go_wp2_with fail;refine HV.out.mono ?_;rintro e v7 ⟨rfl, hR7, hC7⟩;have hlt6 := HC6.out.lt;have hB7 := HB6.out.trans (hC7.below (by omega) (by omega) (fun b e => by cases e));have hx7 := (hC7.block q0 (by omega) (by omega) (fun e => by cases e)).trans HX6.out;have hcb7 := HC6.out.offG hC7 hgb;obtain ⟨c1, f1⟩ := hcb7.got (o := 1) (by decide);have hlt7 := hcb7.lt;have hbs : Below b v7 (v7.setCell ⟨b, 1, none⟩ (.int .i64 n1)) := (Below.refl b v7).setCell (Nat.le_refl _) _;have hcb8 : CB (v7.setCell ⟨b, 1, none⟩ (.int .i64 n1)) b [op, n1, 0, 0, 0, 0, 0, 0, 0, 0, 0, 0, 0] (.slice none 0 0) := hcb7.put (o := 1) (by decide) n1;have hR8 := hR7.belowR hbs hgb;have hB8 := hB7.trans (hbs.mono (by omega));have hx8 := (hbs.block q0 (by omega)).trans hx7;have hsz8 : (v7.setCell ⟨b, 1, none⟩ (.int .i64 n1)).heap.size = v7.heap.size := by simp
 obtain ⟨V8, hV8⟩ : ∃ V8, v7.setCell ⟨b, 1, none⟩ (.int .i64 n1) = V8 := ⟨_, rfl⟩;rw [hV8] at hcb8 hR8 hB8 hx8 hsz8;have HV8E := hJz hV8;have HC8 := hJz hcb8;have HR8 := hJz hR8;have HB8 := hJz hB8;have HX8 := hJz hx8;clear hR7 hC7 hlt6 hB7 hx7 hcb7 hbs hcb8 hR8 hB8 hx8 hsz8 hV8 HV HB6 HX6 HC6;go_upto_region 4 with fail;rw [HV8E.out];clear c1 f1 hlt7;obtain ⟨c0, f0⟩ := HC8.out.got (o := 0) (by decide);simp only [List.getD_cons_zero] at c0;have hlt8 := HC8.out.lt;have HF := hJz (cfld_any op V8);have HLOW := hJz (fldL_low op);go_wp2_with fail;refine HF.out.mono ?_;rintro e v9 ⟨rfl, hb9⟩;obtain ⟨L, hL⟩ : ∃ L, fldL op = L := ⟨_, rfl⟩;rw [hL] at HLOW HPZ ⊢;have hcb9 := HC8.out.below hb9;have hR9 := HR8.out.below hb9;have hx9 := (hb9.block q0 (by omega)).trans HX8.out;have hB9 := HB8.out.trans (hb9.mono (by omega));have hlt9 := hcb9.lt;obtain ⟨W1, hW1⟩ : ∃ W1, v9.heap.size = W1 := ⟨_, rfl⟩
 have HK9 : Hid (∀ V, Chg (q0 + 2) (some b) v9 V → V.heap[q0]? = some (.cells #[.int .i64 0, .int .i64 0, .int .i64 0, .int .i64 0, .int .i64 0, .int .i64 0, .int .i64 0, .int .i64 0, .int .i64 0, .int .i64 0, .int .i64 0, .int .i64 0, .int .i64 0, .slice none 0 0] 26 (0, 0)) ∧ Below q0 w V ∧ Ev V) := hJz fun V hC => by
  have h1 := hB9.trans (hC.below (by omega) (by omega) (fun b2 e => by injection e with e; omega));exact ⟨(hC.block q0 (by omega) (by omega) (fun e => by injection e with e; omega)).trans hx9, h1, HEV2.out V h1⟩
 have HW1G : Hid (b < W1) := hJz (by omega);have HITE := hJz hW1;have hI9 : (v9.iter (bs8 L) 0).heap[W1]? = some (.stringIter (bs8 L) 0) := by rw [← hW1]; exact World.iter_heap v9 _ _
 have hA9 : Below v9.heap.size v9 (v9.iter (bs8 L) 0) := since_alloc (Below.refl _ v9) _;have hcbA := hcb9.below hA9;have hRA := hR9.below hA9;have hCA : Chg (q0 + 2) (some b) v9 (v9.iter (bs8 L) 0) := Chg.of_below hA9;have HGE : Hid (v9.heap.size ≤ W1) := hJz (by omega);clear hb9 HF hL c0 f0 hlt8 hcb9 hR9 hx9 hB9 hlt9 hW1 hA9 HC8 HR8 HB8 HX8;go_wp2_with fail;rw [HITE.out];generalize v9.iter (bs8 L) 0 = WA at *;go_loopw [7] (fun _ wr => ∃ (k : Nat) (d : Pz) (AN : Option Addr) (cN : Nat) (AR : Option Addr) (cR : Nat), k ≤ L.length ∧ wr.heap[W1]? = some (.stringIter (bs8 L) k) ∧ (L.drop k).foldl stepZ d = D ∧ CB wr b d.z (.slice AN d.nums.length cN) ∧ RdS wr (q0 + 2) AR cR d.P d.bad ∧ wr.ownsRow W1 2 1 (.slice AN d.nums.length cN) d.nums.length (ints .i64 d.nums) ∧ Few40 d.P ∧ d.nums.length ≤ 1000 ∧ (∀ i, In64p (d.z.getD i 0)) ∧ (∀ x ∈ d.nums, In64p x) ∧ Chg (q0 + 2) (some b) v9 wr) (fun _ wr => L.length - wr.iterPos W1)
 case atStart =>
  refine ⟨0, ⟨[op, n1, 0, 0, 0, 0, 0, 0, 0, 0, 0, 0, 0], [], P2, bd2 || b1⟩, none, 0, _, _, by omega, hI9, HPZ.out.symm, hcbA, hRA, own_nil _ _ _, HF2.out.1, by simp, fun i => ?_, (fun x hx => by cases hx), hCA⟩
  match i with
  | 0 => exact ⟨by show _ ≤ op; omega, by show op ≤ _; omega⟩
  | 1 => exact HN1.out
  | i + 2 =>
   have h0 : ∀ j, (List.replicate 11 (0 : Int)).getD j 0 = 0 := fun j => by
    rw [List.getD_eq_getElem?_getD, List.getElem?_replicate]
    split <;> rfl
   rw [List.getD_cons_succ, List.getD_cons_succ];have e : ([0, 0, 0, 0, 0, 0, 0, 0, 0, 0, 0] : List Int) = List.replicate 11 0 := rfl;rw [e, h0];exact ⟨by decide, by decide⟩
 case round =>
  clear hI9 hcbA hRA hCA;obtain ⟨k, d, AN, cN, AR, cR, hk, hI, hDD, hcb, hR, hown, hfw, hnl, hz6, hn6, hC⟩ := hrel;have HPOS := hJz (iter_pos hI)
  by_cases hkl : k < L.length
  ·have hnx := next_at L HLOW.out wr W1 k hI hkl;obtain ⟨f, hf⟩ : ∃ f, L[k] = f := ⟨_, rfl⟩;have hdr : L.drop k = f :: L.drop (k + 1) := by rw [List.drop_eq_getElem_cons hkl, hf]
   rw [hdr, List.foldl_cons] at hDD;rw [hf] at hnx;have hI2 := Lib.iterAt_heap wr W1 (bs8 L) k (k + 1) hI;have hcb2 := hcb.iterW hI (k + 1);have hR2 := hR.iterW hI (k + 1);have hown2 := own_iterW (k2 := k + 1) hown hI;have hC2 := hC.iterW (k := k + 1) HGE.out (bs8 L);have HFI := hJz (rfill (q0 + 2) b AR cR d.P d.bad d.z (.slice AN d.nums.length cN) f (wr.iterAt W1 (bs8 L) (k + 1)) hR2 hcb2 hgb (fun l hl => by have := hfw.2 l hl; omega) (by have := hfw.1; omega) (fun V hV => (HK9.out V (hC2.trans hV (.inl rfl))).2.2));have HDD := hJz hDD;have HI2 := hJz hI2;have HO2 := hJz hown2;have HC2 := hJz hC2;have HFW := hJz hfw;have HNL := hJz hnl;have HZ6 := hJz hz6;have HN6 := hJz hn6;have hszi : (wr.iterAt W1 (bs8 L) (k + 1)).heap.size = wr.heap.size := Lib.iterAt_size _ _ _ _;have HSI : Hid (W1 ≤ (wr.iterAt W1 (bs8 L) (k + 1)).heap.size) := hJz (Nat.le_of_lt (Array.getElem?_eq_some_iff.1 hI2).1);clear hf hdr hDD hI hI2 hcb hcb2 hR hR2 hown hown2 hC hC2 hfw hnl hz6 hn6 hszi;go_wp2_with fail;clear hnx;generalize wr.iterAt W1 (bs8 L) (k + 1) = wi at *;refine HFI.out.mono ?_;rintro e w5 ⟨rfl, v', A5, c5, hcb5, hna, hR5, hC5⟩;have hI5 : w5.heap[W1]? = some (.stringIter (bs8 L) (k + 1)) := (hC5.block W1 (Array.getElem?_eq_some_iff.1 HI2.out).1 (by have := HW1G.out; omega) (fun e => by injection e with e; have := HW1G.out; omega)).trans HI2.out;have hC6 := HC2.out.trans hC5 (.inl rfl);have hpos := iter_pos hI5;have hw1g := HW1G.out
   have hres : ∃ (A9 : Option Addr) (c9 : Nat), v' = .slice A9 (stepZ d f).nums.length c9 ∧ w5.ownsRow W1 2 1 (.slice A9 (stepZ d f).nums.length c9) (stepZ d f).nums.length (ints .i64 (stepZ d f).nums) := by
    unfold numsAt at hna
    by_cases h78 : f = 78
    ·rw [if_pos h78] at hna;obtain ⟨A9, c9, h1, h2⟩ := hna;have hl : (stepZ d f).nums = valsP d.P := by unfold stepZ; rw [if_pos h78]
     have hl2 : (valsP d.P).length = d.P.length := by unfold valsP; rw [List.length_map]
     rw [hl, hl2];exact ⟨A9, c9, h1, own_bsW h2 HSI.out⟩
    ·rw [if_neg h78] at hna;have hl : (stepZ d f).nums = d.nums := by unfold stepZ; rw [if_neg h78]
     rw [hl];exact ⟨AN, cN, hna, own_chg HO2.out hC5 (fun e => by have := (HO2.out.lt _ e).1; omega) (fun b2 e e2 => by injection e2 with e2; have := (HO2.out.lt _ e).1; omega)⟩
   obtain ⟨A9, c9, rfl, hown5⟩ := hres
   have hnl5 : (stepZ d f).nums.length ≤ 1000 := by
    unfold stepZ
    show (if f = 78 then valsP d.P else d.nums).length ≤ 1000
    split
    ·unfold valsP; rw [List.length_map]; exact HFW.out.1
    ·exact HNL.out
   have hn65 : ∀ x ∈ (stepZ d f).nums, In64p x := by
    unfold stepZ
    show ∀ x ∈ (if f = 78 then valsP d.P else d.nums), In64p x
    split
    ·exact valsP_in _
    ·exact HN6.out
   clear hna hC5;go_wp2_with fail;go_roundw
   case rel => exact ⟨k + 1, stepZ d f, A9, c9, A5, c5, by omega, hI5, HDD.out, hcb5, hR5, hown5, fillP_few HFW.out, hnl5, fillP_in HZ6.out, hn65, hC6⟩
   case measure =>
    rw [hpos];have := HPOS.out;omega
  ·have hnx := next_end L wr W1 k hI hkl;obtain rfl : k = L.length := by omega
   rw [List.drop_length] at hDD;have hDD : d = D := hDD;subst hDD;obtain ⟨hxq, hBq, hEv⟩ := HK9.out wr hC;have hzlen := hcb.len;obtain ⟨Zd, nums, Pd, bad⟩ := d;simp only at hcb hR hown hfw hnl hz6 hn6 HOK hzlen ⊢
   obtain ⟨y0, y1, y2, y3, y4, y5, y6, y7, y8, y9, y10, y11, y12, hYS⟩ : ∃ y0 y1 y2 y3 y4 y5 y6 y7 y8 y9 y10 y11 y12, Zd = [y0, y1, y2, y3, y4, y5, y6, y7, y8, y9, y10, y11, y12] := by
    match Zd, hzlen with
    | [y0, y1, y2, y3, y4, y5, y6, y7, y8, y9, y10, y11, y12], _ => exact ⟨_, _, _, _, _, _, _, _, _, _, _, _, _, rfl⟩
   subst hYS;have hlt := hcb.lt;have hEB : EvB wr.heap.size wr := fun V hV => HEV2.out V (hBq.trans (hV.mono (by omega)));have HLI := hJz (wlineE y0 y1 y2 y3 y4 y5 y6 y7 y8 y9 y10 y11 y12 AN cN nums wr hnl hz6 hn6 (Sl.of_own hown) hEB);have hcapN := own_le hown;obtain ⟨RB, hRB⟩ : ∃ RB, okZ [y0, y1, y2, y3, y4, y5, y6, y7, y8, y9, y10, y11, y12] nums.length = RB := ⟨_, rfl⟩;obtain ⟨LNB, hLNB⟩ : ∃ LNB, lineB [y0, y1, y2, y3, y4, y5, y6, y7, y8, y9, y10, y11, y12] nums = LNB := ⟨_, rfl⟩;rw [hRB, hLNB] at HLI HOK
   have HCBQ : Hid (∀ V, Below wr.heap.size wr V → CB V b [y0, y1, y2, y3, y4, y5, y6, y7, y8, y9, y10, y11, y12] (.slice AN nums.length cN) ∧ V.heap[q0]? = some (.cells #[.int .i64 0, .int .i64 0, .int .i64 0, .int .i64 0, .int .i64 0, .int .i64 0, .int .i64 0, .int .i64 0, .int .i64 0, .int .i64 0, .int .i64 0, .int .i64 0, .int .i64 0, .slice none 0 0] 26 (0, 0)) ∧ V.heap[q0 + 2]? = some (.cells #[.slice AR Pd.length cR, .bool bad] 88 (0, 0)) ∧ V.ownsRow W1 2 1 (.slice AN nums.length cN) nums.length (ints .i64 nums) ∧ Below q0 w V) := hJz fun V hV =>
    ⟨hcb.below hV, (hV.block q0 (Array.getElem?_eq_some_iff.1 hxq).1).trans hxq, (hV.block _ hR.lt).trans hR.blk, own_below hown hV, hBq.trans (hV.mono (by omega))⟩
   obtain ⟨k0, fk0⟩ := hcb.got (o := 0) (by decide);obtain ⟨k1, fk1⟩ := hcb.got (o := 1) (by decide);obtain ⟨k2, fk2⟩ := hcb.got (o := 2) (by decide);obtain ⟨k3, fk3⟩ := hcb.got (o := 3) (by decide);obtain ⟨k4, fk4⟩ := hcb.got (o := 4) (by decide);obtain ⟨k5, fk5⟩ := hcb.got (o := 5) (by decide);obtain ⟨k6, fk6⟩ := hcb.got (o := 6) (by decide);obtain ⟨k7, fk7⟩ := hcb.got (o := 7) (by decide);obtain ⟨k8, fk8⟩ := hcb.got (o := 8) (by decide);obtain ⟨k9, fk9⟩ := hcb.got (o := 9) (by decide);obtain ⟨k10, fk10⟩ := hcb.got (o := 10) (by decide);obtain ⟨k11, fk11⟩ := hcb.got (o := 11) (by decide);obtain ⟨k12, fk12⟩ := hcb.got (o := 12) (by decide);obtain ⟨k13, fk13⟩ := hcb.gotV;simp only [List.getD_cons_zero, List.getD_cons_succ] at k0 k1 k2 k3 k4 k5 k6 k7 k8 k9 k10 k11 k12;clear fk0 fk1 fk2 fk3 fk4 fk5 fk6 fk7 fk8 fk9 fk10 fk11 fk12 fk13 hcb hR hown hfw hnl hz6 hn6 hC hxq hBq hEv hEB hzlen hI HPOS HK9 hRB hLNB;go_wp2_with fail;refine HLI.out.mono ?_;rintro e v10 ⟨rfl, hb10⟩;clear hnx k0 k1 k2 k3 k4 k5 k6 k7 k8 k9 k10 k11 k12 k13;obtain ⟨hcb, hxq, hrx, hown, hBq⟩ := HCBQ.out v10 hb10;have hcs := @cell_set;have kb : v10.cell? ⟨q0 + 2, 0 + 1, none⟩ = some (.bool bad) := (cell_of_row v10 (q0 + 2) 1 _ _ (0, 0) hrx).trans rfl;have kbl := (Array.getElem?_eq_some_iff.1 hrx).1;obtain ⟨k0, fk0⟩ := hcb.got (o := 0) (by decide);obtain ⟨k1, fk1⟩ := hcb.got (o := 1) (by decide);obtain ⟨k2, fk2⟩ := hcb.got (o := 2) (by decide);obtain ⟨k3, fk3⟩ := hcb.got (o := 3) (by decide);obtain ⟨k4, fk4⟩ := hcb.got (o := 4) (by decide);obtain ⟨k5, fk5⟩ := hcb.got (o := 5) (by decide);obtain ⟨k6, fk6⟩ := hcb.got (o := 6) (by decide);obtain ⟨k7, fk7⟩ := hcb.got (o := 7) (by decide);obtain ⟨k8, fk8⟩ := hcb.got (o := 8) (by decide);obtain ⟨k9, fk9⟩ := hcb.got (o := 9) (by decide);obtain ⟨k10, fk10⟩ := hcb.got (o := 10) (by decide);obtain ⟨k11, fk11⟩ := hcb.got (o := 11) (by decide);obtain ⟨k12, fk12⟩ := hcb.got (o := 12) (by decide);obtain ⟨k13, fk13⟩ := hcb.gotV;have hbl := hcb.lt;simp only [List.getD_cons_zero, List.getD_cons_succ] at k0 k1 k2 k3 k4 k5 k6 k7 k8 k9 k10 k11 k12;clear fk0 fk1 fk2 fk3 fk4 fk5 fk6 fk7 fk8 fk9 fk10 fk11 fk12 fk13;have hql := (Array.getElem?_eq_some_iff.1 hxq).1;have kq0 : v10.cell? ⟨q0, 0, none⟩ = some (.int .i64 0) := (cell_of_row v10 q0 0 _ _ (0, 0) hxq).trans rfl;have kq1 : v10.cell? ⟨q0, 1, none⟩ = some (.int .i64 0) := (cell_of_row v10 q0 1 _ _ (0, 0) hxq).trans rfl;have kq2 : v10.cell? ⟨q0, 2, none⟩ = some (.int .i64 0) := (cell_of_row v10 q0 2 _ _ (0, 0) hxq).trans rfl;have kq3 : v10.cell? ⟨q0, 3, none⟩ = some (.int .i64 0) := (cell_of_row v10 q0 3 _ _ (0, 0) hxq).trans rfl;have kq4 : v10.cell? ⟨q0, 4, none⟩ = some (.int .i64 0) := (cell_of_row v10 q0 4 _ _ (0, 0) hxq).trans rfl;have kq5 : v10.cell? ⟨q0, 5, none⟩ = some (.int .i64 0) := (cell_of_row v10 q0 5 _ _ (0, 0) hxq).trans rfl;have kq6 : v10.cell? ⟨q0, 6, none⟩ = some (.int .i64 0) := (cell_of_row v10 q0 6 _ _ (0, 0) hxq).trans rfl;have kq7 : v10.cell? ⟨q0, 7, none⟩ = some (.int .i64 0) := (cell_of_row v10 q0 7 _ _ (0, 0) hxq).trans rfl;have kq8 : v10.cell? ⟨q0, 8, none⟩ = some (.int .i64 0) := (cell_of_row v10 q0 8 _ _ (0, 0) hxq).trans rfl;have kq9 : v10.cell? ⟨q0, 9, none⟩ = some (.int .i64 0) := (cell_of_row v10 q0 9 _ _ (0, 0) hxq).trans rfl;have kq10 : v10.cell? ⟨q0, 10, none⟩ = some (.int .i64 0) := (cell_of_row v10 q0 10 _ _ (0, 0) hxq).trans rfl;have kq11 : v10.cell? ⟨q0, 11, none⟩ = some (.int .i64 0) := (cell_of_row v10 q0 11 _ _ (0, 0) hxq).trans rfl;have kq12 : v10.cell? ⟨q0, 12, none⟩ = some (.int .i64 0) := (cell_of_row v10 q0 12 _ _ (0, 0) hxq).trans rfl;have kq13 : v10.cell? ⟨q0, 13, none⟩ = some (.slice none 0 0) := (cell_of_row v10 q0 13 _ _ (0, 0) hxq).trans rfl;have fq : ∀ i, v10.frozen? ⟨q0, i, none⟩ = false := fun i => by simp [World.frozen?, hxq]
   have HOW := hJz hown;have HBQ := hJz hBq;have HQW : Hid (q0 < W1) := hJz (by have := HW1G.out; omega);clear hcb hxq hrx hown hBq hb10 HCBQ HLI HW1 HW2 HOP HV1 HSZ0 HV1E HV2E HZ1 HZ2 HBE HV5E HZ5 HV8E HITE HGE HF1 HF2 HN1 HP0n hop0 hop1 HE HEV2 HLOW HQ0 hcapN hk hkl hgb hlt
   cases RB with
   | false =>
    simp only [Bool.false_eq_true, if_false]
    cases bad with
    | true =>
     have HOKT : Hid (okP l = false) := hJz (by rw [HOK.out]; rfl);go_wp2_with fail
     refine bodyPost_ret (v := .tuple #[.agg #[.int .i64 0, .int .i64 0, .int .i64 0, .int .i64 0, .int .i64 0, .int .i64 0, .int .i64 0, .int .i64 0, .int .i64 0, .int .i64 0, .int .i64 0, .int .i64 0, .int .i64 0, .slice none 0 0], .int .i64 3]) ?_ rfl ⟨?_, ?_⟩
     ·simp [results, Tryz.results10, go_sem, kq0, kq1, kq2, kq3, kq4, kq5, kq6, kq7, kq8, kq9, kq10, kq11, kq12, kq13, fq, hcs]
     ·unfold PRes;rw [HOKT.out, if_neg (by decide)]
     ·exact ((((((((((((((HBQ.out.setCell (Nat.le_refl _) _).setCell (Nat.le_refl _) _).setCell (Nat.le_refl _) _).setCell (Nat.le_refl _) _).setCell (Nat.le_refl _) _).setCell (Nat.le_refl _) _).setCell (Nat.le_refl _) _).setCell (Nat.le_refl _) _).setCell (Nat.le_refl _) _).setCell (Nat.le_refl _) _).setCell (Nat.le_refl _) _).setCell (Nat.le_refl _) _).setCell (Nat.le_refl _) _).setCell (Nat.le_refl _) _)
    | false =>
     have HOKT : Hid (okP l = false) := hJz (by rw [HOK.out]; rfl);go_wp2_with fail
     refine bodyPost_ret (v := .tuple #[.agg #[.int .i64 0, .int .i64 0, .int .i64 0, .int .i64 0, .int .i64 0, .int .i64 0, .int .i64 0, .int .i64 0, .int .i64 0, .int .i64 0, .int .i64 0, .int .i64 0, .int .i64 0, .slice none 0 0], .int .i64 3]) ?_ rfl ⟨?_, ?_⟩
     ·simp [results, Tryz.results10, go_sem, kq0, kq1, kq2, kq3, kq4, kq5, kq6, kq7, kq8, kq9, kq10, kq11, kq12, kq13, fq, hcs]
     ·unfold PRes;rw [HOKT.out, if_neg (by decide)]
     ·exact ((((((((((((((HBQ.out.setCell (Nat.le_refl _) _).setCell (Nat.le_refl _) _).setCell (Nat.le_refl _) _).setCell (Nat.le_refl _) _).setCell (Nat.le_refl _) _).setCell (Nat.le_refl _) _).setCell (Nat.le_refl _) _).setCell (Nat.le_refl _) _).setCell (Nat.le_refl _) _).setCell (Nat.le_refl _) _).setCell (Nat.le_refl _) _).setCell (Nat.le_refl _) _).setCell (Nat.le_refl _) _).setCell (Nat.le_refl _) _)
   | true =>
    simp only [if_true]
    cases bad with
    | true =>
     have HOKT : Hid (okP l = false) := hJz (by rw [HOK.out]; rfl);go_wp2_with fail
     refine bodyPost_ret (v := .tuple #[.agg #[.int .i64 0, .int .i64 0, .int .i64 0, .int .i64 0, .int .i64 0, .int .i64 0, .int .i64 0, .int .i64 0, .int .i64 0, .int .i64 0, .int .i64 0, .int .i64 0, .int .i64 0, .slice none 0 0], .int .i64 3]) ?_ rfl ⟨?_, ?_⟩
     ·simp [results, Tryz.results10, go_sem, kq0, kq1, kq2, kq3, kq4, kq5, kq6, kq7, kq8, kq9, kq10, kq11, kq12, kq13, fq, hcs]
     ·unfold PRes;rw [HOKT.out, if_neg (by decide)]
     ·exact ((((((((((((((HBQ.out.setCell (Nat.le_refl _) _).setCell (Nat.le_refl _) _).setCell (Nat.le_refl _) _).setCell (Nat.le_refl _) _).setCell (Nat.le_refl _) _).setCell (Nat.le_refl _) _).setCell (Nat.le_refl _) _).setCell (Nat.le_refl _) _).setCell (Nat.le_refl _) _).setCell (Nat.le_refl _) _).setCell (Nat.le_refl _) _).setCell (Nat.le_refl _) _).setCell (Nat.le_refl _) _).setCell (Nat.le_refl _) _)
    | false =>
     by_cases hls : LNB = l
     ·have HOKT : Hid (okP l = true) := hJz (by rw [HOK.out]; simp [hls]);have hse : ((S8 LNB).toList == (S8 l).toList) = true := by rw [hls]; exact (Lib.bytes_beq_iff _ _).mpr rfl
      clear hls;go_wp2_with fail
      refine bodyPost_ret (v := .tuple #[.agg #[.int .i64 y0, .int .i64 y1, .int .i64 y2, .int .i64 y3, .int .i64 y4, .int .i64 y5, .int .i64 y6, .int .i64 y7, .int .i64 y8, .int .i64 y9, .int .i64 y10, .int .i64 y11, .int .i64 y12, .slice AN nums.length cN], .int .i64 0]) ?_ rfl ⟨?_, ?_⟩
      ·simp [results, Tryz.results10, go_sem, kq0, kq1, kq2, kq3, kq4, kq5, kq6, kq7, kq8, kq9, kq10, kq11, kq12, kq13, fq, hcs]
      ·unfold PRes;rw [HOKT.out, if_pos rfl];refine ⟨AN, cN, rfl, own_le HOW.out, (own_cap40 HOW.out).2, ?_⟩;exact Sl.of_own (own_chg HOW.out (((((((((((((((Chg.refl q0 none v10).trans (Chg.set (g := q0) (row := none) 0 (.int .i64 y0)) (.inl rfl)).trans (Chg.set (g := q0) (row := none) 1 (.int .i64 y1)) (.inl rfl)).trans (Chg.set (g := q0) (row := none) 2 (.int .i64 y2)) (.inl rfl)).trans (Chg.set (g := q0) (row := none) 3 (.int .i64 y3)) (.inl rfl)).trans (Chg.set (g := q0) (row := none) 4 (.int .i64 y4)) (.inl rfl)).trans (Chg.set (g := q0) (row := none) 5 (.int .i64 y5)) (.inl rfl)).trans (Chg.set (g := q0) (row := none) 6 (.int .i64 y6)) (.inl rfl)).trans (Chg.set (g := q0) (row := none) 7 (.int .i64 y7)) (.inl rfl)).trans (Chg.set (g := q0) (row := none) 8 (.int .i64 y8)) (.inl rfl)).trans (Chg.set (g := q0) (row := none) 9 (.int .i64 y9)) (.inl rfl)).trans (Chg.set (g := q0) (row := none) 10 (.int .i64 y10)) (.inl rfl)).trans (Chg.set (g := q0) (row := none) 11 (.int .i64 y11)) (.inl rfl)).trans (Chg.set (g := q0) (row := none) 12 (.int .i64 y12)) (.inl rfl)).trans (Chg.set (g := q0) (row := none) 13 (.slice AN nums.length cN)) (.inl rfl)) (fun e => by have := (HOW.out.lt _ e).1; have := HQW.out; omega) (fun b2 e e2 => by cases e2))
      ·exact ((((((((((((((HBQ.out.setCell (Nat.le_refl _) _).setCell (Nat.le_refl _) _).setCell (Nat.le_refl _) _).setCell (Nat.le_refl _) _).setCell (Nat.le_refl _) _).setCell (Nat.le_refl _) _).setCell (Nat.le_refl _) _).setCell (Nat.le_refl _) _).setCell (Nat.le_refl _) _).setCell (Nat.le_refl _) _).setCell (Nat.le_refl _) _).setCell (Nat.le_refl _) _).setCell (Nat.le_refl _) _).setCell (Nat.le_refl _) _)
     ·have HOKT : Hid (okP l = false) := hJz (by rw [HOK.out]; simp [hls]);have hse : ((S8 LNB).toList == (S8 l).toList) = false := (Lib.bytes_beq_false_iff _ _).mpr (fun e => hls (S8_inj e));clear hls;go_wp2_with fail
      refine bodyPost_ret (v := .tuple #[.agg #[.int .i64 0, .int .i64 0, .int .i64 0, .int .i64 0, .int .i64 0, .int .i64 0, .int .i64 0, .int .i64 0, .int .i64 0, .int .i64 0, .int .i64 0, .int .i64 0, .int .i64 0, .slice none 0 0], .int .i64 3]) ?_ rfl ⟨?_, ?_⟩
      ·simp [results, Tryz.results10, go_sem, kq0, kq1, kq2, kq3, kq4, kq5, kq6, kq7, kq8, kq9, kq10, kq11, kq12, kq13, fq, hcs]
      ·unfold PRes;rw [HOKT.out, if_neg (by decide)]
      ·exact ((((((((((((((HBQ.out.setCell (Nat.le_refl _) _).setCell (Nat.le_refl _) _).setCell (Nat.le_refl _) _).setCell (Nat.le_refl _) _).setCell (Nat.le_refl _) _).setCell (Nat.le_refl _) _).setCell (Nat.le_refl _) _).setCell (Nat.le_refl _) _).setCell (Nat.le_refl _) _).setCell (Nat.le_refl _) _).setCell (Nat.le_refl _) _).setCell (Nat.le_refl _) _).setCell (Nat.le_refl _) _).setCell (Nat.le_refl _) _)
end
end Go.Proofs.YtpmnjojednbnpaaGreatDoor
