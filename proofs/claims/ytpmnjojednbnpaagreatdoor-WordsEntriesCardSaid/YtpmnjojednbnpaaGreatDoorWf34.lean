import Derived.Test.YtpmnjojednbnpaaGreatDoorWf29
import Derived.Test.YtpmnjojednbnpaaGreatDoorWf30
import Derived.Test.YtpmnjojednbnpaaGreatDoorWf31
import Derived.Test.YtpmnjojednbnpaaGreatDoorWf32
import Derived.Test.YtpmnjojednbnpaaGreatDoorWf33
import Derived.Lib.Builder
import Derived.Test.YtpmnjojednbnpaaGreatDoorWf04
import Derived.Deep.AppendSrc
import Derived.Deep.Upon
import Derived.Test.YtpmnjojednbnpaaGreatDoorWf08
import Derived.Test.YtpmnjojednbnpaaGreatDoorWf11
set_option maxHeartbeats 16000000
set_option maxRecDepth 100000
set_option linter.unusedVariables false
set_option linter.unusedSimpArgs false
namespace Go.Proofs.YtpmnjojednbnpaaGreatDoor
open Go.ChangeShapes Go.WideShapes Go.ChangeAt Go.RowKit
section
theorem rparseD (l : List UInt8) (w : World) (hl : l.length ≤ 900) :
  Calls Tryz.prog 11 #[.string (S8 l)] w fun e w' => DPR w' e (docC l) ∧ Below w.heap.size w w' := by
 cases h : docR l with
 | none =>
  by_cases hw : (splD 32 l).length ≤ (fldL (opB ((splD 32 l).headD []))).length + 1
  ·exact rparseD_n l w hl h hw
  ·exact rparseD_m l w hl h hw
 | some d0 =>
  cases h2 : endR (some d0) with
  | none =>
   by_cases hp : d0.P = []
   ·exact rparseD_c l w hl d0 h h2 hp
   ·exact rparseD_b l w hl d0 h h2 hp
  | some d1 => exact rparseD_g l w hl d0 d1 h h2
end
section
theorem rc_int (l : List Int) : rc (fun n : Int => [Value.int .i64 n]) l = ints .i64 l := by
 unfold rc ints
 induction l with
 | nil => rfl
 | cons a l ih => simp only [List.map_cons, List.flatten_cons, ih]; rfl
theorem rd_int {w : World} {r : List Value} (h : Go.Proofs.YtpmnjojednbnpaaGreatDoor.Rd w (.int .i64) r) : ∃ n : Int, r = [.int .i64 n] ∧ In64p n := by
 obtain ⟨n, rfl, hn⟩ := h;exact ⟨n, rfl, by have := bd_i64 hn; unfold In64p; omega⟩
end
section
structure Pair (W : Nat) (w : World) (g : Nat) (A : Option Addr) (c : Nat) (bs : List Nat) (A2 : Option Addr) (c2 : Nat) (ws : List Nat) : Prop where
  s : WrS W w g A c bs
  own : w.ownsRow W 5 1 (.slice A2 ws.length c2) ws.length (by8 ws)
  ne : (Value.slice A2 ws.length c2).ownBlock ≠ some g
  ap : Apart (.slice A bs.length c) (.slice A2 ws.length c2)
theorem Pair.below {W : Nat} {w w' : World} {g : Nat} {A : Option Addr} {c : Nat} {bs : List Nat} {A2 : Option Addr} {c2 : Nat} {ws : List Nat} (h : Pair W w g A c bs A2 c2 ws) (hb : Below w.heap.size w w') : Pair W w' g A c bs A2 c2 ws :=
 ⟨h.s.below hb, own_below h.own hb, h.ne, h.ap⟩
structure Dw where
  kind : Int
  A : Option Addr
  c : Nat
  l : List Int
  s : ByteArray
  lo : Int
  hi : Int
  most : Int
def Dw.cells (d : Dw) : List Value := [.int .i64 d.kind, .slice d.A d.l.length d.c, .string d.s, .int .i64 d.lo, .int .i64 d.hi, .int .i64 d.most]
theorem Dw.len (d : Dw) : d.cells.length = 6 := rfl
end
section
theorem EN34 : Elem Tryz.prog 24 2 1 8 := Elem.mk' (z := .int .i64 0) (by kernel_rfl) (by kernel_rfl) (by decide) (by decide)
theorem rdM_stuck {s : Rs} (h : s.err ≠ 0) : (rdM s).2 = s := by
 unfold rdM rdI;rw [if_pos h]
theorem Chg.thenB {g W : Nat} {row : Option Nat} {w w1 w2 : World} (h : Chg g row w w1) (hb : Below W w1 w2) (hW : w.heap.size ≤ W) : Chg g row w w2 :=
 ⟨hb.os.trans h.os, hb.tape.trans h.tape, hb.output.trans h.output, Nat.le_trans h.size hb.size, fun k hk hg hr => (hb.block k (by omega)).trans (h.block k hk hg hr)⟩
theorem own_base8 {w : World} {b b2 e size n : Nat} {v : Value} {xs : List Value} (h : w.ownsRow b e size v n xs) (hb : b2 ≤ b) : w.ownsRow b2 e size v n xs := by
 refine ⟨h.1, ?_⟩
 rcases h.2 with h | ⟨g, cap, cur, hv, h1, rest⟩
 ·exact .inl h
 ·exact .inr ⟨g, cap, cur, hv, Nat.le_trans hb h1, rest⟩
theorem rdI_bad {lo hi : Int} {s : Rs} (h : (rdI lo hi s).2.err ≠ 0) : (rdI lo hi s).1 = 0 := by
 revert h
 unfold rdI
 split
 ·intro _; rfl
 ·split
  ·intro _; rfl
  ·split
   ·intro _; rfl
   ·intro h; exact absurd rfl h
theorem rdNs_succ (k : Nat) (s : Rs) : (rdNs (k + 1) s).1 = (rdNs k s).1 ++ [(rdM (rdNs k s).2).1] ∧ (rdNs (k + 1) s).2 = (rdM (rdNs k s).2).2 := by
 induction k generalizing s with
 | zero => exact ⟨rfl, rfl⟩
 | succ k ih =>
  have h := ih (rdM s).2;exact ⟨by show (rdM s).1 :: (rdNs (k + 1) (rdM s).2).1 = ((rdM s).1 :: (rdNs k (rdM s).2).1) ++ _; rw [h.1]; rfl, by show (rdNs (k + 1) (rdM s).2).2 = _; rw [h.2]; rfl⟩
theorem rdNs_len : ∀ k (s : Rs), (rdNs k s).1.length = k
 | 0, s => rfl
 | k + 1, s => by show ((rdM s).1 :: (rdNs k (rdM s).2).1).length = k + 1; rw [List.length_cons, rdNs_len k]
theorem Rdr.keepR {w w' : World} {g : Nat} {A : Option Addr} {c : Nat} {B : List Nat} {er : Int} (h : Rdr w g A c B er) (hC : Chg g none w w') {k : Nat} {o : Obj} (hk : w.heap[k]? = some o) (hne : ∀ cs t f, o = .cells cs t f → t ≠ 211) : w'.heap[k]? = some o := by
 rw [hC.block k (Array.getElem?_eq_some_iff.1 hk).1 ?_ (fun e => by cases e)]
 ·exact hk
 ·intro e;subst e;rw [h.blk] at hk;injection hk with hk;exact hne _ _ _ hk.symm rfl
theorem rlongW (g : Nat) (A : Option Addr) (c : Nat) (B : List Nat) (er : Int) (w : World) (hR : Rdr w g A c B er) :
  Calls Tryz.prog 80 #[.agg #[.pointer (some ⟨g, 0, none⟩)]] w fun e w' => e = .returned (.int .i64 (rdM ⟨B, er⟩).1) ∧ Chg g none w w' ∧ ∃ A' c', Rdr w' g A' c' (rdM ⟨B, er⟩).2.B (rdM ⟨B, er⟩).2.err := by
 have hb := since_alloc (Below.refl _ w) (.cells #[.pointer (some ⟨g, 0, none⟩)] 141);have HI := hJz (rint4_any g A c B er (-9223372036854775808) 9223372036854775807 (w.alloc (.cells #[.pointer (some ⟨g, 0, none⟩)] 141)) (hR.below hb));have HB := hJz hb;clear hb hR;unfold rdM;go_enter Tryz.func80, Tryz.ntmps80;go_wp2_with fail;refine HI.out.mono ?_;rintro e w1 ⟨rfl, hC, hr⟩;go_wp2_with fail;go_ret;exact ⟨rfl, (Chg.of_below HB.out).trans hC (.inl rfl), hr⟩
theorem rnumberW (g : Nat) (A : Option Addr) (c : Nat) (B : List Nat) (er : Int) (w : World) (hR : Rdr w g A c B er) :
  Calls Tryz.prog 78 #[.agg #[.pointer (some ⟨g, 0, none⟩)]] w fun e w' => e = .returned (.int .i64 (rdM ⟨B, er⟩).1) ∧ Chg g none w w' ∧ ∃ A' c', Rdr w' g A' c' (rdM ⟨B, er⟩).2.B (rdM ⟨B, er⟩).2.err := by
 have hb := since_alloc (Below.refl _ w) (.cells #[.pointer (some ⟨g, 0, none⟩)] 141);have HI := hJz (rlongW g A c B er (w.alloc (.cells #[.pointer (some ⟨g, 0, none⟩)] 141)) (hR.below hb));have HB := hJz hb;clear hb hR;go_enter Tryz.func78, Tryz.ntmps78;go_wp2_with fail;refine HI.out.mono ?_;rintro e w1 ⟨rfl, hC, hr⟩;go_wp2_with fail;go_ret;exact ⟨rfl, (Chg.of_below HB.out).trans hC (.inl rfl), hr⟩
theorem wopenW (A : Option Addr) (cap : Nat) (l : List Nat) (w : World) (hl : l.length ≤ 10000000) (ho : Oct l) (hs : Sl w A (by8 l)) :
  Calls Tryz.prog 77 #[.slice A l.length cap] w fun e w' => ∃ g, e = .returned (.agg #[.pointer (some ⟨g, 0, none⟩)]) ∧ w.heap.size ≤ g ∧ Below w.heap.size w w' ∧ ∃ A' c', Rdr w' g A' c' l 0 := by
 have hb := since_alloc (Below.refl _ w) (.cells #[.pointer none] 141);have HN := hJz (ropen_any A cap l (w.alloc (.cells #[.pointer none] 141)) hl ho (hs.below hb));have hbx := heap_alloc_new w (.cells #[.pointer none] 141);have HB := hJz hb;have HX := hJz hbx;clear hs hb hbx;go_enter Tryz.func77, Tryz.ntmps77;go_wp2_with fail;refine HN.out.mono ?_;rintro e w1 ⟨g, rfl, hg, hb1, A', c', hR⟩;rw [World.size_alloc] at hg hb1;have hx := (hb1.block w.heap.size (by omega)).trans HX.out;have HBW : Hid (Below w.heap.size w w1) := hJz (HB.out.trans (hb1.mono (Nat.le_succ _)));have k0 : w1.cell? ⟨w.heap.size, 0, none⟩ = some (.pointer none) := by rw [cell_of_row w1 w.heap.size 0 _ _ (0, 0) hx]; rfl
 have f0 : w1.frozen? ⟨w.heap.size, 0, none⟩ = false := by simp [World.frozen?, hx]
 have hwl : w.heap.size < w1.heap.size := (Array.getElem?_eq_some_iff.1 hx).1;have HR := hJz hR;have HG := hJz hg;have HX2 := hJz hx;clear hg hb1 hx hR HN;go_wp2_with fail;have kx : (w1.setCell ⟨w.heap.size, 0, none⟩ (.pointer (some ⟨g, 0, none⟩))).cell? ⟨w.heap.size, 0, none⟩ = some (.pointer (some ⟨g, 0, none⟩)) := World.cell?_setCell_same w1 _ _ k0
 refine bodyPost_ret (v := .agg #[.pointer (some ⟨g, 0, none⟩)]) ?_ rfl ⟨g, rfl, by have := HG.out; omega, HBW.out.setCell (Nat.le_refl _) _, A', c', ?_⟩
 ·simp [results, Tryz.results77, go_sem, kx]
 ·have h := HR.out;have hgw := HG.out;refine ⟨by rw [Below.heap_setCell _ _ _ _ (by show g ≠ w.heap.size; omega)]; exact h.blk, ?_, h.cap, h.cm, h.lies, h.oct⟩
  by_cases hl0 : l = []
  ·rw [hl0]; exact Sl.nil
  ·refine h.sl.far (fun b o hA e => ?_) _;have hp := List.length_pos_iff.2 hl0;obtain ⟨b1, o1, e1, h1⟩ := h.sl.byte (j := 0) hp;rw [hA] at e1;injection e1 with e1;injection e1 with e1 e2 _;subst e1; subst e2;have e3 : b = w.heap.size := e;subst e3;rw [cell_of_row w1 w.heap.size (o + 0) _ _ (0, 0) HX2.out] at h1
   match o, h1 with
   | 0, h1 => cases h1
   | o + 1, h1 => simp at h1
theorem rlist64 (g : Nat) (A : Option Addr) (c : Nat) (B : List Nat) (er mx : Int) (w : World) (hR : Rdr w g A c B er) (hm0 : 0 ≤ mx) (hm : mx ≤ 1000) {n : Int} {s1 s2 : Rs} {ns : List Int} (h1 : rdI 0 mx ⟨B, er⟩ = (n, s1)) (h2 : rdNs n.toNat s1 = (ns, s2)) :
  Calls Tryz.prog 79 #[.agg #[.pointer (some ⟨g, 0, none⟩)], .int .i64 mx, .func (.func 80) #[.agg #[.pointer (some ⟨g, 0, none⟩)]] #[]] w fun e w' => ∃ (N : List Int) (A' : Option Addr) (c' : Nat), e = .returned (.slice A' N.length c') ∧ (s2.err = 0 → N = ns) ∧ w'.ownsRow w.heap.size 2 1 (.slice A' N.length c') N.length (ints .i64 N) ∧ Chg g none w w' ∧ N.length ≤ 1000 ∧ (∀ x ∈ N, In64p x) ∧ ∃ A2 c2, Rdr w' g A2 c2 s2.B s2.err := by
 have hb := since_alloc (Below.refl _ w) (.cells #[.pointer (some ⟨g, 0, none⟩)] 141);have hR1 := hR.below hb;have hbx := heap_alloc_new w (.cells #[.pointer (some ⟨g, 0, none⟩)] 141);have HI := hJz (rint4_any g A c B er 0 mx (w.alloc (.cells #[.pointer (some ⟨g, 0, none⟩)] 141)) hR1);rw [h1] at HI
 have hn : 0 ≤ n ∧ n ≤ mx := by
  have := rdI_within (lo := 0) (hi := mx) ⟨B, er⟩ (by decide) hm0;rw [h1] at this;exact this
 have HNS := hJz h2
 have HBAD : Hid (s1.err ≠ 0 → n = 0) := hJz fun h => by
  have := rdI_bad (lo := 0) (hi := mx) (s := ⟨B, er⟩) (by rw [h1]; exact h);rw [h1] at this;exact this
 obtain ⟨m, hmn⟩ : ∃ m : Nat, n = (m : Int) := ⟨n.toNat, by omega⟩;subst hmn;have hml : m ≤ 1000 := by omega
 have HR1 := hJz hR1;have HX1 := hJz hbx;have HB := hJz hb;obtain ⟨WB, hWB⟩ : ∃ WB, w.heap.size = WB := ⟨_, rfl⟩;have HWB := hJz hWB;rw [hWB] at HX1 ⊢;have hszb : WB ≤ w.heap.size := by omega
 have HSZ : Hid (WB ≤ (w.alloc (.cells #[.pointer (some ⟨g, 0, none⟩)] 141)).heap.size) := hJz (by rw [World.size_alloc]; omega);have HGL : Hid (g < WB) := hJz (by rw [← hWB]; exact hR.lt);clear hR hR1 hb hbx h1 h2 hWB hszb;go_enter Tryz.func79, Tryz.ntmps79;go_wp2_with fail;refine HI.out.mono ?_;rintro e w2 ⟨rfl, hC2, A2, c2, hR2⟩;have hx2 := HR1.out.keepR hC2 HX1.out (fun cs t f e => by injection e with _ e2 _; subst e2; decide);have hC2w : Chg g none w w2 := (Chg.of_below HB.out).trans hC2 (.inl rfl);have hsz2 : WB ≤ w2.heap.size := Nat.le_trans HSZ.out hC2.size;rw [HWB.out];have HR2 := hJz hR2;have HX2 := hJz hx2;have HC2 := hJz hC2w;clear HI hC2 hR2 hx2 hC2w HX1 HR1 HB HSZ;go_wp2_with fail;go_loopw [8, 9, 15] (fun ov xv iv wr => ∃ (k : Nat) (A3 : Option Addr) (c3 : Nat) (A4 : Option Addr) (c4 : Nat), k ≤ m ∧ iv = .int .i64 (k : Int) ∧ ov = .slice A3 (rdNs k s1).1.length c3 ∧ wr.ownsRow (WB + 1) 2 1 (.slice A3 (rdNs k s1).1.length c3) (rdNs k s1).1.length (ints .i64 (rdNs k s1).1) ∧ Rdr wr g A4 c4 (rdNs k s1).2.B (rdNs k s1).2.err ∧ Chg g none w wr ∧ wr.heap[WB]? = some (.cells #[.pointer (some ⟨g, 0, none⟩)] 141 (0, 0)) ∧ (0 < k → (rdNs k s1).2.err = 0)) (fun _ _ iv _ => m - (intOf iv).toNat)
 case atStart => exact ⟨0, none, 0, A2, c2, by omega, rfl, rfl, own_nil _ _ _, HR2.out, HC2.out, HX2.out, fun h => absurd h (by omega)⟩
 case round =>
  clear A2 c2 HR2 HX2 HC2;obtain ⟨k, A3, c3, A4, c4, hk, rfl, rfl, hown, hR, hC, hx, hz⟩ := hrel
  by_cases hkm : k < m
  ·have hk1 : (k : Int) < (m : Int) := by omega
   have hk0 : (0 : Int) ≤ (k : Int) := by omega
   have HLO := hJz (rlongW g A4 c4 (rdNs k s1).2.B (rdNs k s1).2.err wr hR);obtain ⟨x, s3, hxs⟩ : ∃ x s3, rdM (rdNs k s1).2 = (x, s3) := ⟨_, _, rfl⟩;have hs := rdNs_succ k s1;rw [hxs] at hs;have hxs2 : rdM ⟨(rdNs k s1).2.B, (rdNs k s1).2.err⟩ = (x, s3) := hxs;rw [hxs2] at HLO;have hlen := rdNs_len k s1;have hx6 : In64p x := by have := rdM_in (rdNs k s1).2; rw [hxs] at this; exact this
   have HS := hJz hs;obtain ⟨N, hN⟩ : ∃ N, (rdNs k s1).1 = N := ⟨_, rfl⟩;rw [hN] at hown hlen HS ⊢;have HLEN := hJz hlen;have hN1 : N.length ≤ 999 := by omega
   clear hlen;have HOWN := hJz hown;have HR := hJz hR;have HC := hJz hC;have HX := hJz hx;have hszk : WB ≤ wr.heap.size := Nat.le_of_lt (Array.getElem?_eq_some_iff.1 hx).1;clear hs hxs hxs2 hN hown hR hC hx hz;have HNE : Hid (∀ cs t f, (Obj.cells #[.pointer (some ⟨g, 0, none⟩)] 141 (0, 0)) = .cells cs t f → t ≠ 211) := hJz fun cs t f e => by injection e with _ e2 _; subst e2; decide
   go_wp2_with (first | (go_at_call 80; refine HLO.out.mono ?_; rintro e w5 ⟨rfl, hC5, A5, c5, hR5⟩; have hx5 := HR.out.keepR hC5 HX.out HNE.out; have p0 : w5.cell? ⟨WB, 0, none⟩ = some (.pointer (some ⟨g, 0, none⟩)) := (cell_of_row w5 WB 0 _ _ (0, 0) hx5).trans rfl; have hwl : WB < w5.heap.size := (Array.getElem?_eq_some_iff.1 hx5).1; have HX5 := hJz hx5; have HC5 := hJz hC5; have HR5 := hJz hR5; have HER := hJz (rerr_any g A5 c5 s3.B s3.err w5 hR5); clear hx5 hC5 hR5) | fail);refine HER.out.mono ?_;rintro e w6 ⟨rfl, hb6⟩;have hR6 := HR5.out.below hb6;have hC6 := HC.out.trans (HC5.out.trans (Chg.of_below hb6) (.inl rfl)) (.inl rfl);have hx6 := (hb6.block WB (Nat.lt_of_lt_of_le hwl (Nat.le_refl _))).trans HX5.out;have hown6 := own_below (own_chg HOWN.out HC5.out (fun e => by have := HOWN.out.lt _ e; have := HGL.out; omega) (fun b _ e => by cases e)) hb6;clear p0 hwl hb6
   by_cases he : s3.err = 0
   ·have he1 : (s3.err != 0) = false := by simp [he]
    have HR6 := hJz hR6;have HC6 := hJz hC6;have HX6 := hJz hx6;have hsz6 : WB + 1 ≤ w6.heap.size := (Array.getElem?_eq_some_iff.1 hx6).1;have HE := hJz he;clear hR6 hC6 hx6 he
    go_wp2_with (first
     | (at_builtin; refine wpList_app rfl (.tmp 23) (.tmp 25) rfl EN34 rfl rfl (hown6.alloc _) (m := 1) (news := [.int .i64 x]) rfl (Sl.new_ _ _ _) (fun u hu => by simp only [List.mem_cons, List.not_mem_nil, or_false] at hu; subst hu; rfl) (by unfold maxLen; omega) (by omega) (by simp only [World.size_alloc]; omega) ?_; intro A7 c7 w7 own7 hg7 hb7)
     | fail)
    have hlt7 : g < w6.heap.size := HR6.out.lt;have hW7 := since_alloc (Below.refl _ w6) (.cells #[.int .i64 x] 2);have hR7 : Rdr w7 g A5 c5 s3.B s3.err := (HR6.out.below hW7).belowW hb7 (Nat.lt_succ_of_lt HGL.out);have hB67 : Below (WB + 1) w6 w7 := (hW7.mono hsz6).trans hb7;have hC7 : Chg g none w w7 := HC6.out.thenB hB67 (by have := HWB.out; omega);have hx7 := (hB67.block WB (Nat.lt_succ_self _)).trans HX6.out;have hs := HS.out;have hlk := HLEN.out;have hl7 : (rdNs (k + 1) s1).1.length = N.length + 1 := by rw [hs.1, List.length_append]; rfl
    go_roundw
    case rel =>
     refine ⟨k + 1, A7, c7, A5, c5, by omega, by go_num, by rw [hl7], ?_, ?_, hC7, hx7, fun _ => by rw [hs.2]; exact HE.out⟩
     ·rw [hl7, hs.1];simpa [ints] using own7
     ·rw [hs.2]; exact hR7
    case measure => simp [intOf]; omega
   ·have he1 : (s3.err != 0) = true := by simpa using he
    have hst : s2 = s3 := by
     have h1 := HNS.out
     have h2 : (rdNs m s1).2 = s2 := by
      have : (m : Int).toNat = m := by omega
      rw [this] at h1;rw [h1]
     have h3 : ∀ j, (rdNs (k + 1 + j) s1).2 = s3 := fun j => by
      induction j with
      | zero => exact HS.out.2
      | succ j ih =>
       have := (rdNs_succ (k + 1 + j) s1).2;rw [ih] at this;exact this.trans (rdM_stuck he)
     rw [← h2, show m = k + 1 + (m - (k + 1)) by omega];exact h3 _
    have HST := hJz hst;have HHE := hJz he;clear hown6 hx6 he hst;go_wp2_with fail;go_ret;refine ⟨[], none, 0, rfl, fun h => absurd h (by rw [HST.out]; exact HHE.out), own_nil _ _ _, hC6, by simp, (fun x hx => by cases hx), A5, c5, by rw [HST.out]; exact hR6⟩
  ·obtain rfl : k = m := by omega
   have h1 := HNS.out;have htn : (k : Int).toNat = k := by omega
   rw [htn] at h1;have hlen := rdNs_len k s1;rw [h1] at hown hR hlen ⊢
   have hin : ∀ x ∈ ns, In64p x := by
    have : ∀ k (s : Rs), ∀ x ∈ (rdNs k s).1, In64p x := fun k => by
     induction k with
     | zero => intro s x hx; cases hx
     | succ k ih =>
      intro s x hx
      rcases List.mem_cons.1 hx with rfl | hx
      ·exact rdM_in s
      ·exact ih _ x hx
    have h2 := this k s1;rw [h1] at h2;exact h2
   have HLEN := hJz hlen;clear hlen h1 hx hz;go_wp2_with fail;go_ret;exact ⟨ns, A3, c3, rfl, fun _ => rfl, own_base8 hown (Nat.le_succ _), hC, by rw [HLEN.out]; exact hml, hin, A4, c4, hR⟩
end
end Go.Proofs.YtpmnjojednbnpaaGreatDoor
