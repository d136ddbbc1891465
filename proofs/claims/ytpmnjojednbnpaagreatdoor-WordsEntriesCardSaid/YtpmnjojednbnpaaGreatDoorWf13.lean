import Derived.Lib.AtoiErrMem
import Derived.Lib.ParseIntBTie
import Derived.Lib.SplitLaws
import Derived.Test.YtpmnjojednbnpaaGreatDoorWf12
import Derived.Lib.ItoaMem
import Derived.Lib.ParseIntBCases
set_option maxHeartbeats 16000000
set_option maxRecDepth 100000
set_option linter.unusedVariables false
set_option linter.unusedSimpArgs false
namespace Go.Proofs.YtpmnjojednbnpaaGreatDoor
open Go.ChangeShapes Go.WideShapes Go.ChangeAt Go.RowKit
section
def valP (l : List UInt8) : Int × Bool :=
  match Lib.parseIntB 64 l with
  | .ok v => (v, false)
  | .range => (Lib.intSat 64 l, true)
  | .syntax => (0, true)
theorem valP_in (l : List UInt8) : In64p (valP l).1 := by
 unfold valP
 cases h : Lib.parseIntB 64 l with
 | ok v =>
  have := Lib.parseIntB_bounds h;have e : ((2 ^ (64 - 1) : Nat) : Int) = 9223372036854775808 := by decide
  rw [e] at this
  show In64p v
  unfold In64p;omega
 | range =>
  show In64p (Lib.intSat 64 l)
  have e1 : ((2 ^ (64 - 1) : Nat) : Int) = 9223372036854775808 := by decide
  have e2 : ((2 ^ (64 - 1) - 1 : Nat) : Int) = 9223372036854775807 := by decide
  unfold In64p Lib.intSat
  split
  ·rw [e1]; omega
  ·rw [e2]; omega
 | «syntax» =>
  show In64p 0
  unfold In64p;omega
theorem Chg.thenW {g W : Nat} {row : Option Nat} {w w1 w2 : World} (h : Chg g row w w1) (hb : Below W w1 w2) (hW : w.heap.size ≤ W) : Chg g row w w2 :=
 ⟨hb.os.trans h.os, hb.tape.trans h.tape, hb.output.trans h.output, Nat.le_trans h.size hb.size, fun k hk hg hr => (hb.block k (by omega)).trans (h.block k hk hg hr)⟩
theorem ENw : Elem Tryz.prog 24 2 1 8 := Elem.mk' (z := .int .i64 0) (by kernel_rfl) (by kernel_rfl) (by decide) (by decide)
def wordP (P : List (List UInt8)) (bad : Bool) : List UInt8 × List (List UInt8) × Bool :=
  match P with
  | [] => ([], [], true)
  | x :: r => (x, r, bad)
structure RdS (w : World) (g : Nat) (A : Option Addr) (c : Nat) (P : List (List UInt8)) (bad : Bool) : Prop where
  blk : w.heap[g]? = some (.cells #[.slice A P.length c, .bool bad] 88 (0, 0))
  sl : Sl w A (strs P)
  cap : P.length ≤ c
  cm : c ≤ maxLen
  nil : A = none → c = 0
  far : ∀ b o, A = some ⟨b, o, none⟩ → b < g
section
variable {w w' : World} {g : Nat} {A : Option Addr} {c : Nat} {P : List (List UInt8)} {bad : Bool}
theorem RdS.lt (h : RdS w g A c P bad) : g < w.heap.size := (Array.getElem?_eq_some_iff.1 h.blk).1
theorem RdS.below (h : RdS w g A c P bad) (hb : Below w.heap.size w w') : RdS w' g A c P bad := ⟨(hb.block g h.lt).trans h.blk, h.sl.below hb, h.cap, h.cm, h.nil, h.far⟩
theorem RdS.slChg (h : RdS w g A c P bad) (hC : Chg g none w w') : Sl w' A (strs P) := by
 intro hne;obtain ⟨b, o, e, hc⟩ := h.sl hne;refine ⟨b, o, e, fun j u hu => ?_⟩;have h1 := hc j u hu;rw [World.cell?_of_block (a := ⟨b, o + j, none⟩) (hC.block b (World.block_lt_of_cell? _ _ h1) (Nat.ne_of_lt (h.far b o e)) (fun e => by cases e))];exact h1
theorem RdS.belowR {W : Nat} (h : RdS w g A c P bad) (hb : Below W w w') (hg : g < W) : RdS w' g A c P bad :=
 ⟨(hb.block g hg).trans h.blk, fun hne => by
  obtain ⟨b, o, e, hc⟩ := h.sl hne
  exact ⟨b, o, e, fun j u hu => (hb.cell (p := ⟨b, o + j, none⟩) (Nat.lt_trans (h.far b o e) hg)).trans (hc j u hu)⟩, h.cap, h.cm, h.nil, h.far⟩
theorem RdS.set (h : RdS w g A c P bad) : RdS (w.setCell ⟨g, 1, none⟩ (.bool true)) g A c P true :=
 ⟨setbW 1 (.bool true) h.blk, h.slChg (Chg.set (g := g) (row := none) 1 _), h.cap, h.cm, h.nil, h.far⟩
end
theorem rword (g : Nat) (A : Option Addr) (c : Nat) (P : List (List UInt8)) (bad : Bool) (w : World) (hR : RdS w g A c P bad) :
  Calls Tryz.prog 39 #[.pointer (some ⟨g, 0, none⟩)] w fun e w' => e = .returned (.string (S8 (wordP P bad).1)) ∧ (∃ A' c', RdS w' g A' c' (wordP P bad).2.1 (wordP P bad).2.2) ∧ Chg g none w w' := by
 have k0 : w.cell? ⟨g, 0, none⟩ = some (.slice A P.length c) := (cell_of_row w g 0 _ _ (0, 0) hR.blk).trans rfl;have k1 : w.cell? ⟨g, 1, none⟩ = some (.bool bad) := (cell_of_row w g 1 _ _ (0, 0) hR.blk).trans rfl;have f0 : w.frozen? ⟨g, 0, none⟩ = false := by simp [World.frozen?, hR.blk]
 have f1 : w.frozen? ⟨g, 1, none⟩ = false := by simp [World.frozen?, hR.blk]
 have gl := hR.lt;have hcm := hR.cm;unfold maxLen at hcm
 match P, hR with
 | [], hR =>
  have HR := hJz hR;clear hR;go_enter Tryz.func39, Tryz.ntmps39;go_wp2_with fail;go_ret;exact ⟨rfl, ⟨A, c, HR.out.set⟩, Chg.set 1 _⟩
 | x :: r, hR =>
  obtain ⟨b, o, rfl, hc⟩ := hR.sl (by simp [strs]);have hx := hc 0 _ (strs_at (L := x :: r) (k := 0) (by simp));have hx : w.cell? ⟨b, o, none⟩ = some (.string (S8 x)) := hx;have bl := World.block_lt_of_cell? _ _ hx;have hbg := hR.far b o rfl;have hcap := hR.cap;rw [List.length_cons] at hcap;have hr1 : (1 : Int) ≤ ((x :: r).length : Int) := by rw [List.length_cons]; omega
  have hne : (((x :: r).length : Int) == 0) = false := by rw [beq_eq_false_iff_ne, List.length_cons]; omega
  have hpos : (0 : Int) < ((x :: r).length : Int) := by omega
  have hr2 : ((x :: r).length : Int) ≤ (c : Int) := by rw [List.length_cons]; omega
  have HR := hJz hR;have HNT : Hid (∀ j u, (strs r)[j]? = some u → w.cell? ⟨b, o + (1 + j), none⟩ = some u) := hJz fun j u hu => hc (1 + j) u (by rw [Nat.add_comm 1 j]; simpa [strs] using hu);have HL : Hid ((x :: r).length = r.length + 1) := hJz rfl;obtain ⟨n, hn⟩ : ∃ n, (x :: r).length = n := ⟨_, rfl⟩;rw [hn] at k0 hr1 hne hpos hr2 HL;clear hR hc hn hcap
  have HFIN : Hid (∀ (A' : Option Addr) (c' : Nat), r.length ≤ c' → c' ≤ c → (∃ o', A' = some ⟨b, o', none⟩ ∧ (r ≠ [] → o' = o + 1)) → RdS (w.setCell ⟨g, 0, none⟩ (.slice A' r.length c')) g A' c' r bad) := hJz fun A' c' h1 h2 ⟨o', h3, h4⟩ => by
   have hC : Chg g none w (w.setCell ⟨g, 0, none⟩ (.slice A' r.length c')) := Chg.set (g := g) (row := none) 0 _;refine ⟨setbW 0 _ HR.out.blk, fun hne => ?_, h1, Nat.le_trans h2 HR.out.cm, fun e => (by rw [h3] at e; cases e), fun b1 o1 e => (by rw [h3] at e; injection e with e; injection e with e _; omega)⟩;have hrn : r ≠ [] := fun e => hne (by rw [e]; rfl);obtain rfl := h4 hrn;refine ⟨b, o + 1, h3, fun j u hu => ?_⟩;have h5 := HNT.out j u hu;rw [World.cell?_of_block (a := ⟨b, o + 1 + j, none⟩) (hC.block b bl (Nat.ne_of_lt hbg) (fun e => by cases e)), Nat.add_assoc];exact h5
  by_cases hc1 : c = 1
  ·subst hc1;have hr0 : r.length = 0 := by have := HL.out; omega
   have HR0 := hJz hr0;go_enter Tryz.func39, Tryz.ntmps39;rw [HL.out] at *;clear hr0;go_wp2_with fail;go_ret;have h0 : r.length ≤ 0 := by rw [HR0.out]; exact Nat.le_refl 0
   exact ⟨rfl, ⟨some ⟨b, o, none⟩, 0, HFIN.out _ 0 h0 (by omega) ⟨o, rfl, fun h => absurd (List.length_eq_zero_iff.1 HR0.out) h⟩⟩, Chg.set 0 _⟩
  ·go_enter Tryz.func39, Tryz.ntmps39;rw [HL.out] at *;go_wp2_with fail;go_ret;exact ⟨rfl, ⟨some ⟨b, o + 1, none⟩, c - 1, HFIN.out _ (c - 1) (by omega) (by omega) ⟨o + 1, rfl, fun _ => rfl⟩⟩, Chg.set 0 _⟩
theorem rvalue (g : Nat) (A : Option Addr) (c : Nat) (P : List (List UInt8)) (bad : Bool) (l : List UInt8) (w : World) (hR : RdS w g A c P bad) (hl : l.length ≤ 100000000) (hE : Ev w) :
  Calls Tryz.prog 40 #[.pointer (some ⟨g, 0, none⟩), .string (S8 l)] w fun e w' => e = .returned (.int .i64 (valP l).1) ∧ RdS w' g A c P (bad || (valP l).2) ∧ Chg g none w w' := by
 have HR := hJz hR;have gl := hR.lt;have hmax : (S8 l).size ≤ 281474976710656 := by rw [S8_size]; omega
 have hdat := S8_data l;clear hR
 cases h : Lib.parseIntB 64 l with
 | ok v =>
  have hv : valP l = (v, false) := by unfold valP; rw [h]
  have HP := hJz (Tryz.strconv_ParseInt_10_at64_ok (S8 l) (by omega) v (by rw [hdat]; exact h) w);rw [hv, Bool.or_false];clear h hv hdat hmax hE;go_enter Tryz.func40, Tryz.ntmps40;go_wp2_with fail;refine HP.out.mono ?_;rintro e w1 ⟨rfl, hw1⟩
  have hb1 : Below w.heap.size w w1 := by
   rcases hw1 with rfl | ⟨t, rfl⟩
   ·exact Below.refl _ _
   ·exact Lib.bytesWorld_below _ _ _
  have HB := hJz hb1;clear hw1 hb1;go_wp2_with fail;go_ret;exact ⟨rfl, HR.out.below HB.out, Chg.of_below HB.out⟩
 | range =>
  have hv : valP l = (Lib.intSat 64 l, true) := by unfold valP; rw [h]
  obtain ⟨tp, p, hvar⟩ := hE.rng;have HP := hJz (Tryz.strconv_ParseInt_10_at64_range_var (S8 l) hmax (by rw [hdat]; exact h) tp p w hvar);rw [hdat] at HP;rw [hv, Bool.or_true];generalize Lib.intSat 64 l = x at *;clear h hv hdat hmax hE hvar;go_enter Tryz.func40, Tryz.ntmps40;go_wp2_with fail;refine HP.out.mono ?_;rintro e w1 ⟨M, rfl, hM, hMb, hb1⟩;have hR1 := HR.out.below hb1;have HR1 := hJz hR1;have HB := hJz hb1;have k1 : w1.cell? ⟨g, 1, none⟩ = some (.bool bad) := (cell_of_row w1 g 1 _ _ (0, 0) hR1.blk).trans rfl;have f1 : w1.frozen? ⟨g, 1, none⟩ = false := by simp [World.frozen?, hR1.blk]
  have gl1 := hR1.lt;clear hM hMb hb1 hR1;go_wp2_with fail;go_ret;exact ⟨rfl, HR1.out.set, (Chg.of_below HB.out).trans (Chg.set 1 _) (.inl rfl)⟩
 | «syntax» =>
  have hv : valP l = (0, true) := by unfold valP; rw [h]
  obtain ⟨tp, p, hvar⟩ := hE.syn;have HP := hJz (Tryz.strconv_ParseInt_10_at64_syntax_var (S8 l) hmax (by rw [hdat]; exact h) tp p w hvar);rw [hv, Bool.or_true];clear h hv hdat hmax hE hvar;go_enter Tryz.func40, Tryz.ntmps40;go_wp2_with fail;refine HP.out.mono ?_;rintro e w1 ⟨M, rfl, hM, hMb, hb1⟩;have hR1 := HR.out.below hb1;have HR1 := hJz hR1;have HB := hJz hb1;have k1 : w1.cell? ⟨g, 1, none⟩ = some (.bool bad) := (cell_of_row w1 g 1 _ _ (0, 0) hR1.blk).trans rfl;have f1 : w1.frozen? ⟨g, 1, none⟩ = false := by simp [World.frozen?, hR1.blk]
  have gl1 := hR1.lt;clear hM hMb hb1 hR1;go_wp2_with fail;go_ret;exact ⟨rfl, HR1.out.set, (Chg.of_below HB.out).trans (Chg.set 1 _) (.inl rfl)⟩
def valsP (P : List (List UInt8)) : List Int := P.map fun l => (valP l).1
def badsP (P : List (List UInt8)) : Bool := P.any fun l => (valP l).2
theorem rvalues (g : Nat) (A : Option Addr) (c : Nat) (P : List (List UInt8)) (bad : Bool) (w : World) (hR : RdS w g A c P bad) (hl : ∀ l ∈ P, l.length ≤ 100000000) (hP : P.length ≤ 100000) (hE : ∀ V, Chg g none w V → Ev V) :
  Calls Tryz.prog 68 #[.pointer (some ⟨g, 0, none⟩)] w fun e w' => ∃ A2 c2, e = .returned (.slice A2 P.length c2) ∧ w'.ownsRow w.heap.size 2 1 (.slice A2 P.length c2) P.length (ints .i64 (valsP P)) ∧ (∃ A' c', RdS w' g A' c' [] (bad || badsP P)) ∧ Chg g none w w' := by
 have HR := hJz hR;have HE := hJz hE;have HL := hJz hl;have gl0 : Hid (g < w.heap.size) := hJz hR.lt;clear hR hE hl;go_enter Tryz.func68, Tryz.ntmps68;go_wp2_with fail;go_loopw [3] (fun ov wr => ∃ (k : Nat) (A2 : Option Addr) (c2 : Nat) (A3 : Option Addr) (c3 : Nat), k ≤ P.length ∧ ov = .slice A2 k c2 ∧ wr.ownsRow w.heap.size 2 1 (.slice A2 k c2) k (ints .i64 (valsP (P.take k))) ∧ RdS wr g A3 c3 (P.drop k) (bad || badsP (P.take k)) ∧ Chg g none w wr) (fun _ wr => match wr.cell? ⟨g, 0, none⟩ with | some (.slice _ n _) => n | _ => 0)
 case atStart => exact ⟨0, none, 0, A, c, by omega, rfl, own_nil _ _ _, by simpa [badsP] using HR.out, Chg.refl _ _ _⟩
 case round =>
  obtain ⟨k, A2, c2, A3, c3, hk, rfl, hown, hR, hC⟩ := hrel;have k0 : wr.cell? ⟨g, 0, none⟩ = some (.slice A3 (P.drop k).length c3) := (cell_of_row wr g 0 _ _ (0, 0) hR.blk).trans rfl;have gl := hR.lt;have hdl : (P.drop k).length = P.length - k := List.length_drop ..
  by_cases hkl : k < P.length
  ·obtain ⟨x, hx⟩ : ∃ x, P[k] = x := ⟨_, rfl⟩;have hdr : P.drop k = x :: P.drop (k + 1) := by rw [List.drop_eq_getElem_cons hkl, hx]
   have htk : P.take (k + 1) = P.take k ++ [x] := by rw [take_snoc P k hkl, hx]
   have hxl := HL.out _ (List.getElem_mem hkl);rw [hx] at hxl;have hpos : (0 : Int) < ((P.drop k).length : Int) := by omega
   have HW := hJz (rword g A3 c3 (P.drop k) (bad || badsP (P.take k)) wr hR);rw [hdr] at HW;have HTK := hJz htk;have HDR := hJz hdr;have HXL := hJz hxl;have HO := hJz hown;have HC := hJz hC;have HDL := hJz hdl;have k0' := k0;obtain ⟨nd, hnd⟩ : ∃ nd, (P.drop k).length = nd := ⟨_, rfl⟩;rw [hnd] at k0 hpos;have HND := hJz hnd;clear hx hdr htk hxl hR hown hC hdl k0' hnd;go_wp2_with fail;refine HW.out.mono ?_;rintro e y1 ⟨rfl, ⟨A4, c4, hR4⟩, hC4⟩;have hR4 : RdS y1 g A4 c4 (P.drop (k + 1)) (bad || badsP (P.take k)) := hR4;have hE1 := HE.out y1 (HC.out.trans hC4 (.inl rfl));have HV := hJz (rvalue g A4 c4 (P.drop (k + 1)) (bad || badsP (P.take k)) x y1 hR4 HXL.out hE1);have HC4 := hJz hC4;have hw1 : (wordP (x :: P.drop (k + 1)) (bad || badsP (P.take k))).1 = x := rfl;rw [hw1];clear hR4 hC4 hE1 HW hw1;go_wp2_with fail;refine HV.out.mono ?_;rintro e y2 ⟨rfl, hR5, hC5⟩;have hC6 := HC.out.trans (HC4.out.trans hC5 (.inl rfl)) (.inl rfl);have hg : g < w.heap.size := gl0.out;have hown6 := own_chg HO.out (HC4.out.trans hC5 (.inl rfl)) (fun e => by have := (HO.out.lt _ e).1; omega) (fun b _ e => by cases e);obtain ⟨xv, hxv⟩ : ∃ xv, (valP x).1 = xv := ⟨_, rfl⟩;have HXV := hJz hxv;rw [hxv];have hsz6 : w.heap.size ≤ y2.heap.size := hC6.size;have HR5 := hJz hR5;have HC6 := hJz hC6;have HO6 := hJz (hown6.alloc (.cells #[.int .i64 xv] 2));have HZ6 : Hid (w.heap.size ≤ y2.heap.size + 1) := hJz (by omega);clear hxv hR5 hC5 hC6 hown6 hsz6 HV
   go_wp2_with (first
    | (at_builtin; refine wpList_app rfl (.tmp 10) (.tmp 15) rfl ENw rfl rfl HO6.out (m := 1) (news := [.int .i64 xv]) rfl (Sl.new_ _ _ _) (fun u hu => by simp only [List.mem_cons, List.not_mem_nil, or_false] at hu; subst hu; rfl) (by unfold maxLen; omega) (by omega) (by simp only [World.size_alloc]; exact HZ6.out) ?_; intro A7 c7 w7 own7 hg7 hb7)
    | fail)
   have hal := since_alloc (Below.refl _ y2) (.cells #[.int .i64 xv] 2);have hbb : Below w.heap.size y2 w7 := (hal.mono (Nat.le_trans HC6.out.size (Nat.le_refl _))).trans hb7;have hR7 : RdS w7 g A4 c4 (P.drop (k + 1)) ((bad || badsP (P.take k)) || (valP x).2) := HR5.out.belowR hbb hg;have hC7 : Chg g none w w7 := HC6.out.thenW hbb (Nat.le_refl _);have hbd : ((bad || badsP (P.take k)) || (valP x).2) = (bad || badsP (P.take (k + 1))) := by rw [HTK.out]; simp [badsP, Bool.or_assoc]
   have k7 : w7.cell? ⟨g, 0, none⟩ = some (.slice A4 (P.drop (k + 1)).length c4) := (cell_of_row w7 g 0 _ _ (0, 0) hR7.blk).trans rfl;rw [hbd] at hR7;go_roundw
   case rel =>
    refine ⟨k + 1, A7, c7, A4, c4, by omega, rfl, ?_, hR7, hC7⟩;rw [HTK.out];have : ints .i64 (valsP (P.take k ++ [x])) = ints .i64 (valsP (P.take k)) ++ [.int .i64 xv] := by rw [← HXV.out]; simp [valsP, ints]
    rw [this];exact own7
   case measure =>
    rw [k7, k0]
    show (P.drop (k + 1)).length < nd
    rw [← HND.out, List.length_drop, List.length_drop];omega
  ·obtain rfl : k = P.length := by omega
   have h0 : (P.drop P.length).length = 0 := by rw [hdl]; omega
   rw [List.drop_length] at hR k0;rw [List.take_length] at hR hown;have HR9 := hJz hR;have HO9 := hJz hown;have HC9 := hJz hC;have k0 : wr.cell? ⟨g, 0, none⟩ = some (.slice A3 0 c3) := k0;clear hR hown hC hdl h0;go_wp2_with fail;go_ret;exact ⟨A2, c2, rfl, HO9.out, ⟨A3, c3, HR9.out⟩, HC9.out⟩
end
section
def consH (b : UInt8) : List (List UInt8) → List (List UInt8)
  | [] => [[b]]
  | h :: t => (b :: h) :: t
def splD (c : UInt8) : List UInt8 → List (List UInt8)
  | [] => [[]]
  | b :: l => if b = c then [] :: splD c l else consH b (splD c l)
theorem splD_ne (c : UInt8) : ∀ l, splD c l ≠ []
 | [] => by simp [splD]
 | b :: l => by
  unfold splD
  split
  ·simp
  ·cases splD c l <;> simp [consH]
theorem index_ne {b c : UInt8} (l : List UInt8) (h : b ≠ c) : Lib.index (b :: l) [c] = if Lib.index l [c] == -1 then -1 else Lib.index l [c] + 1 := by
 have hp : ([c] : List UInt8).isPrefixOf (b :: l) = false := by simp [List.isPrefixOf, Ne.symm h]
 rw [Lib.index, hp]; simp
theorem splK_D (c : UInt8) : ∀ l, Lib.splitK [c] 0 (Lib.count l [c]) l = splD c l
 | [] => by
  rw [Lib.count_miss (by simp [Lib.index])];rfl
 | b :: l => by
  by_cases h : b = c
  ·subst h;have hix : Lib.index (b :: l) [b] = 0 := by rw [Lib.index]; simp [List.isPrefixOf]
   rw [Lib.count_cons_eq, Nat.add_comm, Lib.splitK, hix, if_neg (by decide), splD, if_pos rfl];have := splK_D b l;simpa using this
  ·have ih := splK_D c l;rw [Lib.count_cons_ne b c l h, splD, if_neg h, ← ih]
   cases hk : Lib.count l [c] with
   | zero => rfl
   | succ k =>
    rw [Lib.splitK, Lib.splitK, index_ne l h];have hge := Lib.index_ge l [c]
    by_cases hm : Lib.index l [c] = -1
    ·rw [hm]; rfl
    ·have e1 : (Lib.index l [c] == -1) = false := by simpa using hm
     rw [e1];have e2 : (Lib.index l [c] + 1 == -1) = false := by simp; omega
     simp only [Bool.false_eq_true, if_false, e2];obtain ⟨j, hj⟩ : ∃ j : Nat, Lib.index l [c] = j := ⟨(Lib.index l [c]).toNat, by omega⟩;rw [hj];have e3 : ((j : Int) + 1).toNat = j + 1 := by omega
     have e4 : ((j : Int)).toNat = j := by omega
     rw [e3, e4];rfl
theorem splD_len (c : UInt8) : ∀ l, (splD c l).length ≤ l.length + 1
 | [] => by simp [splD]
 | b :: l => by
  have ih := splD_len c l;unfold splD
  split
  ·simp only [List.length_cons]; omega
  ·cases h : splD c l with
   | nil => simp [consH]
   | cons x t => rw [h] at ih; simp only [consH, List.length_cons] at *; omega
theorem splD_piece (c : UInt8) : ∀ l, ∀ x ∈ splD c l, x.length ≤ l.length
 | [], x, hx => by simp [splD] at hx; simp [hx]
 | b :: l, x, hx => by
  have ih := splD_piece c l;unfold splD at hx
  split at hx
  ·rcases List.mem_cons.1 hx with rfl | hx
   ·simp
   ·have := ih x hx; rw [List.length_cons]; omega
  ·cases h : splD c l with
   | nil => exact absurd h (splD_ne c l)
   | cons y t =>
    rw [h] at hx ih
    rcases List.mem_cons.1 hx with rfl | hx
    ·have := ih y (by simp); simp only [List.length_cons]; omega
    ·have := ih x (by simp [hx]); rw [List.length_cons]; omega
theorem join_consH (b c : UInt8) : ∀ L : List (List UInt8), L ≠ [] → Lib.join (consH b L) [c] = b :: Lib.join L [c]
 | x :: r, _ => by rw [consH, Lib.join_cons, Lib.join_cons]; rfl
theorem join_nilH (c : UInt8) (L : List (List UInt8)) (h : L ≠ []) : Lib.join ([] :: L) [c] = c :: Lib.join L [c] := by
 match L, h with
 | x :: r, _ => rw [Lib.join_cons, Lib.join_cons]; simp [Lib.joinTail]
theorem join_splD (c : UInt8) : ∀ l, Lib.join (splD c l) [c] = l
 | [] => by rw [splD, Lib.join_one]
 | b :: l => by
  unfold splD
  split
  ·rename_i h; rw [join_nilH c _ (splD_ne c l), join_splD c l, h]
  ·rw [join_consH b c _ (splD_ne c l), join_splD c l]
theorem splD_free (c : UInt8) : ∀ (x l : List UInt8), c ∉ x → splD c (x ++ c :: l) = x :: splD c l
 | [], l, _ => by simp [splD]
 | b :: x, l, h => by
  have hb : b ≠ c := fun e => h (by simp [e]);rw [List.cons_append, splD, if_neg hb, splD_free c x l (fun e => h (by simp [e]))];rfl
theorem splD_one (c : UInt8) : ∀ (x : List UInt8), c ∉ x → splD c x = [x]
 | [], _ => rfl
 | b :: x, h => by
  have hb : b ≠ c := fun e => h (by simp [e]);rw [splD, if_neg hb, splD_one c x (fun e => h (by simp [e]))];rfl
theorem splD_join (c : UInt8) : ∀ (L : List (List UInt8)), L ≠ [] → (∀ x ∈ L, c ∉ x) → splD c (Lib.join L [c]) = L
 | [x], _, h => by rw [Lib.join_one]; exact splD_one c x (h x (by simp))
 | x :: y :: r, _, h => by
  have e : Lib.join (x :: y :: r) [c] = x ++ c :: Lib.join (y :: r) [c] := by
   rw [Lib.join_cons, Lib.join_cons]; simp [Lib.joinTail]
  rw [e, splD_free c x _ (h x (by simp)), splD_join c (y :: r) (by simp) (fun z hz => h z (by simp [List.mem_cons.1 hz]))]
theorem wsplit (c : UInt8) (l : List UInt8) (w : World) (hE : Ev w) (hl : l.length ≤ 1000000) :
  Calls Tryz.prog 38 #[.string (S8 l), .string ⟨#[c]⟩] w fun e w' => e = .returned (.slice (some ⟨w.heap.size, 0, none⟩) (splD c l).length (splD c l).length) ∧ w' = w.alloc (.cells (strs (splD c l)).toArray 9) := by
 obtain ⟨m, hm⟩ := hE.mx;have h := Tryz.strings_Split (S8 l) ⟨#[c]⟩ m w (by rw [S8_size]; omega) hm (Nat.le_refl 1);have hd := Lib.splitB_data ⟨#[c]⟩ 0 (Lib.countB (S8 l) ⟨#[c]⟩) (S8 l);have hcb : Lib.countB (S8 l) ⟨#[c]⟩ = Lib.count l [c] := by show Lib.count (S8 l).data.toList _ = _; rw [S8_data]
 have hlen := Lib.splitB_all ⟨#[c]⟩ (Nat.le_refl 1) 0 _ (S8 l) rfl;rw [hcb] at h hd hlen;rw [S8_data] at hd;rw [show (⟨#[c]⟩ : ByteArray).data.toList = [c] from rfl, splK_D] at hd;have hl2 : (splD c l).length = Lib.count l [c] + 1 := by rw [← hd, List.length_map]; exact hlen
 have hst : (Lib.splitB ⟨#[c]⟩ 0 (Lib.count l [c]) (S8 l)).map Value.string = strs (splD c l) := by
  rw [← hd];unfold strs;rw [List.map_map];refine List.map_congr_left fun x _ => ?_
  show Value.string x = Value.string (S8 x.data.toList)
  rfl
 rw [hst, ← hl2] at h;exact h
-- numerals
theorem dec_digit : ∀ (u : Nat), ∀ c ∈ Lib.decDigits u, 48 ≤ c.toNat ∧ c.toNat ≤ 57 := by
 intro u
 induction u using Nat.strongRecOn with
 | _ u ih =>
  intro c hc;rw [Lib.decDigits] at hc
  have hd : ∀ d, d < 10 → 48 ≤ (UInt8.ofNat (48 + d)).toNat ∧ (UInt8.ofNat (48 + d)).toNat ≤ 57 := fun d hd => by
   rw [UInt8.toNat_ofNat'];omega
  split at hc
  ·rename_i h
   rw [List.mem_singleton.1 hc];exact hd u h
  ·rename_i h
   rcases List.mem_append.1 hc with hc | hc
   ·exact ih (u / 10) (by omega) c hc
   ·rw [List.mem_singleton.1 hc];exact hd _ (Nat.mod_lt _ (by decide))
theorem itoa_char (n : Int) : ∀ c ∈ Lib.itoa n, c.toNat = 45 ∨ (48 ≤ c.toNat ∧ c.toNat ≤ 57) := by
 intro c hc;unfold Lib.itoa at hc
 split at hc
 ·rcases List.mem_cons.1 hc with rfl | hc
  ·exact .inl rfl
  ·exact .inr (dec_digit _ c hc)
 ·exact .inr (dec_digit _ c hc)
theorem itoa_free (n : Int) {c : UInt8} (h : c.toNat = 32 ∨ c.toNat = 46) : c ∉ Lib.itoa n := fun hc => by
 have := itoa_char n c hc;omega
theorem dec_ne (u : Nat) : Lib.decDigits u ≠ [] := by
 rw [Lib.decDigits]
 split <;> simp
theorem parseU_app (M : Nat) : ∀ (l r : List UInt8) (acc : Nat), Lib.parseUintM M acc (l ++ r) = match Lib.parseUintM M acc l with | .ok a => Lib.parseUintM M a r | e => e
 | [], r, acc => rfl
 | c :: l, r, acc => by
  rw [List.cons_append, Lib.parseUintM, Lib.parseUintM]
  split
  ·split
   ·rfl
   ·split
    ·rfl
    ·exact parseU_app M l r _
  ·rfl
theorem parseU_dec (M : Nat) (hM : M ≤ 18446744073709551615) : ∀ (u : Nat), u ≤ M → Lib.parseUintM M 0 (Lib.decDigits u) = .ok u := by
 intro u
 induction u using Nat.strongRecOn with
 | _ u ih =>
  intro hu
  have hd : ∀ d, d < 10 → (UInt8.ofNat (48 + d)).toNat = 48 + d := fun d hd => by
   rw [UInt8.toNat_ofNat'];omega
  rw [Lib.decDigits]
  split
  ·rename_i h
   rw [Lib.parseUintM, hd u h, if_pos (by omega), if_neg (by omega), if_neg (by omega), Lib.parseUintM]
   congr 1
   omega
  ·rename_i h
   have hm : u % 10 < 10 := Nat.mod_lt _ (by decide);rw [parseU_app, ih (u / 10) (by omega) (by omega)]
   show Lib.parseUintM M (u / 10) [UInt8.ofNat (48 + u % 10)] = _
   rw [Lib.parseUintM, hd _ hm, if_pos (by omega), if_neg (by omega), if_neg (by omega), Lib.parseUintM]
   congr 1
   omega
theorem valP_itoa {n : Int} (h : In64p n) : valP (Lib.itoa n) = (n, false) := by
 have hb := h;unfold In64p at hb
 have hp : Lib.parseIntB 64 (Lib.itoa n) = .ok n := by
  have e1 : (2 ^ 64 - 1 : Nat) = 18446744073709551615 := by decide
  have e2 : (2 ^ (64 - 1) : Nat) = 9223372036854775808 := by decide
  have hU : ∀ u : Nat, u ≤ 18446744073709551615 → Lib.parseUintB 64 (Lib.decDigits u) = .ok u := fun u hu => by
   unfold Lib.parseUintB;rw [if_neg (dec_ne u), e1];exact parseU_dec _ (Nat.le_refl _) u hu
  unfold Lib.itoa
  split
  ·rename_i hneg
   rw [Lib.parseIntB_minus, hU _ (by omega), e2];simp only [Lib.signedC];rw [if_neg (by omega)]
   congr 1
   omega
  ·rename_i hneg
   cases hd : Lib.decDigits n.toNat with
   | nil => exact absurd hd (dec_ne _)
   | cons c r =>
    have hc := dec_digit n.toNat c (by rw [hd]; simp);rw [Lib.parseIntB_plain 64 c r (by omega) (by omega), ← hd, hU _ (by omega), e2];simp only [Lib.signlessC];rw [if_neg (by omega)]
    congr 1
    omega
 unfold valP;rw [hp]
end
end Go.Proofs.YtpmnjojednbnpaaGreatDoor
