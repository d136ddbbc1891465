import Derived.Laws.Concat
import Derived.Lib.AppendIntMem
import Derived.Lib.Fields
import Derived.Lib.ItoaLen
import Derived.Test.YtpmnjojednbnpaaGreatDoorWf01
import Derived.Test.YtpmnjojednbnpaaGreatDoorWf07
import Derived.Test.YtpmnjojednbnpaaGreatDoorWf08
import Derived.Test.YtpmnjojednbnpaaGreatDoorWf09
set_option maxHeartbeats 16000000
set_option maxRecDepth 100000
set_option linter.unusedVariables false
set_option linter.unusedSimpArgs false
namespace Go.Proofs.YtpmnjojednbnpaaGreatDoor
open Go.ChangeShapes Go.WideShapes Go.ChangeAt Go.RowKit
section
structure Ev (w : World) : Prop where
  pow : Lib.TabIs Tryz.prog w "internal/strconv.uint64pow10" .u64 Lib.pow10Tab
  spc : Lib.TabIs Tryz.prog w "strings.asciiSpace" .u8 Lib.asciiSpaceTab
  mx : ∃ m, w.cell? ⟨3, 0, none⟩ = some (.int .i64 m)
  syn : ∃ tp p, w.var? Tryz.prog "strconv.ErrSyntax" = some #[.iface tp p]
  rng : ∃ tp p, w.var? Tryz.prog "strconv.ErrRange" = some #[.iface tp p]
def EvB (B : Nat) (w : World) : Prop := ∀ w', Below B w w' → Ev w'
theorem EvB.here {B : Nat} {w : World} (h : EvB B w) : Ev w := h w (Below.refl _ _)
theorem EvB.on {B : Nat} {w w1 : World} (h : EvB B w) (hb : Below B w w1) : EvB B w1 := fun w' h' => h w' (hb.trans h')
theorem EvB.up {B B2 : Nat} {w : World} (h : EvB B w) (hB : B ≤ B2) : EvB B2 w := fun w' h' => h w' (h'.mono hB)
def S8 (l : List UInt8) : ByteArray := ⟨l.toArray⟩
theorem S8_data (l : List UInt8) : (S8 l).data.toList = l := by simp [S8]
theorem S8_size (l : List UInt8) : (S8 l).size = l.length := by simp [S8, ByteArray.size]
theorem S8_app (a b : List UInt8) : S8 a ++ S8 b = S8 (a ++ b) := by
 unfold S8;rw [ByteArray.mk_append_mk]
theorem S8_inj {a b : List UInt8} (h : S8 a = S8 b) : a = b := by
 have := congrArg (fun x : ByteArray => x.data.toList) h;simpa [S8] using this
def strs (L : List (List UInt8)) : List Value := L.map fun l => .string (S8 l)
theorem strs_len (L : List (List UInt8)) : (strs L).length = L.length := by simp [strs]
theorem strs_app (L M : List (List UInt8)) : strs (L ++ M) = strs L ++ strs M := by simp [strs]
theorem strs_one (L : List (List UInt8)) : ∀ u ∈ strs L, u.oneCell' = true := fun u hu => by
 obtain ⟨l, _, rfl⟩ := List.mem_map.1 hu;rfl
theorem strs_at {L : List (List UInt8)} {k : Nat} (h : k < L.length) : (strs L)[k]? = some (.string (S8 L[k])) := by simp [strs, h]
theorem EStr : Elem Tryz.prog 39 9 1 16 := Elem.mk' (z := .string ⟨#[]⟩) (by kernel_rfl) (by kernel_rfl) (by decide) (by decide)
def obS (A : Option Addr) (L : List (List UInt8)) (c : Nat) : Option Nat := (Value.slice A L.length c).ownBlock
theorem setbW {w : World} {b t : Nat} {cs : Array Value} (i : Nat) (v : Value) (h : w.heap[b]? = some (.cells cs t (0, 0))) : (w.setCell ⟨b, i, none⟩ v).heap[b]? = some (.cells (cs.set! i v) t (0, 0)) := by
 rw [setCell_eq_setRow w b i _ t (0, 0) _ h];exact setRow_heap w b _ _ t (0, 0) h
structure TxS (W : Nat) (w : World) (g : Nat) (A : Option Addr) (c : Nat) (L : List (List UInt8)) : Prop where
  blk : w.heap[g]? = some (.cells #[.slice A L.length c] 70 (0, 0))
  own : w.ownsRow W 9 1 (.slice A (L).length c) (L).length (strs (L))
  ge : W ≤ g
structure Tt (W g : Nat) (R : Option Nat) (A : Option Addr) (c : Nat) (L : List (List UInt8)) (w w' : World) : Prop where
  s : TxS W w' g A c L
  chg : Chg g R w w'
  row : obS A L c = R ∨ ∃ r, obS A L c = some r ∧ w.heap.size ≤ r
section
variable {W g : Nat} {R : Option Nat} {A A2 : Option Addr} {c c2 : Nat} {L L2 : List (List UInt8)} {w w' w2 : World}
theorem TxS.lt (h : TxS W w g A c L) : g < w.heap.size := (Array.getElem?_eq_some_iff.1 h.blk).1
theorem TxS.below (h : TxS W w g A c L) (hb : Below w.heap.size w w') : TxS W w' g A c L := ⟨(hb.block g h.lt).trans h.blk, own_below h.own hb, h.ge⟩
theorem Tt.refl (h : TxS W w g A c L) : Tt W g (obS A L c) A c L w w := ⟨h, Chg.refl _ _ _, .inl rfl⟩
theorem Tt.trans (h : Tt W g R A c L w w') (k : Tt W g (obS A L c) A2 c2 L2 w' w2) : Tt W g R A2 c2 L2 w w2 :=
 ⟨k.s, h.chg.trans k.chg h.row, by
  rcases k.row with e | ⟨r, e, hr⟩
  ·rcases h.row with e1 | ⟨r, e1, hr⟩
   ·exact .inl (e.trans e1)
   ·exact .inr ⟨r, e.trans e1, hr⟩
  ·exact .inr ⟨r, e, Nat.le_trans h.chg.size hr⟩⟩
theorem Tt.below (h : Tt W g R A c L w w') (hb : Below w'.heap.size w' w2) : Tt W g R A c L w w2 :=
 ⟨h.s.below hb, h.chg.trans (Chg.of_below hb) h.row, h.row⟩
theorem TxS.keep (h : TxS W w g A c L) (hC : Chg g (obS A L c) w w') {k : Nat} {o : Obj} (hk : w.heap[k]? = some o) (hne : ∀ cs t f, o = .cells cs t f → t ≠ 70 ∧ t ≠ 9) : w'.heap[k]? = some o := by
 rw [hC.block k (Array.getElem?_eq_some_iff.1 hk).1]
 ·exact hk
 ·intro e;subst e;rw [h.blk] at hk;injection hk with hk;exact (hne _ _ _ hk.symm).1 rfl
 ·intro e
  rcases h.own.2 with hn | ⟨g1, cap, cur, hv, hb, hg1, _⟩
  ·unfold obS at e;rw [hn.1] at e;simp [Value.ownBlock] at e
  ·unfold obS at e;rw [hv] at e;simp only [Value.ownBlock] at e;injection e with e;subst e;rw [hg1] at hk;injection hk with hk;exact (hne _ _ _ hk.symm).2 rfl
theorem TxS.old (h : TxS W w g A c L) (hW : W ≤ w.heap.size) (hC : Chg g (obS A L c) w w') : Below W w w' := hC.below hW h.ge fun b e => (h.own.lt b e).1
theorem TxS.keepI {IT : Nat} {s : ByteArray} {k : Nat} (h : TxS W w g A c L) (hC : Chg g (obS A L c) w w') (hI : w.heap[IT]? = some (.stringIter s k)) : w'.heap[IT]? = some (.stringIter s k) :=
 h.keep hC hI (fun cs t f e => by cases e)
theorem TxS.keepC {b : Nat} {z : List Int} {v : Value} (h : TxS W w g A c L) (hC : Chg g (obS A L c) w w') (hB : CB w b z v) : CB w' b z v :=
 ⟨h.keep hC hB.blk (fun cs t f e => by injection e with _ e2 _; subst e2; decide), hB.len⟩
theorem TxS.iterAt {IT : Nat} {s : ByteArray} {k : Nat} (h : TxS W w g A c L) (hI : w.heap[IT]? = some (.stringIter s k)) (k2 : Nat) : TxS W (w.iterAt IT s k2) g A c L := by
 have hg : g ≠ IT := fun e => by
  subst e;rw [h.blk] at hI
  cases hI
 refine ⟨by rw [Lib.iterAt_other _ _ _ _ _ hg]; exact h.blk, ⟨h.own.1, ?_⟩, h.ge⟩
 rcases h.own.2 with hn | ⟨g1, cap, cur, hv, hb, hg1, rest⟩
 ·exact .inl hn
 ·have hg2 : g1 ≠ IT := fun e => by
   subst e;rw [hg1] at hI
   cases hI
  exact .inr ⟨g1, cap, cur, hv, hb, (Lib.iterAt_other _ _ _ _ _ hg2).trans hg1, rest⟩
theorem Tt.iterAt {IT : Nat} {s : ByteArray} {k : Nat} (h : Tt W g R A c L w w') (hI : w'.heap[IT]? = some (.stringIter s k)) (hge : w.heap.size ≤ IT) (k2 : Nat) : Tt W g R A c L w (w'.iterAt IT s k2) :=
 ⟨h.s.iterAt hI k2, ⟨h.chg.os, h.chg.tape, h.chg.output, by rw [Lib.iterAt_size]; exact h.chg.size, fun j hj h1 h2 => (Lib.iterAt_other _ _ _ _ _ (by omega)).trans (h.chg.block j hj h1 h2)⟩, h.row⟩
end
theorem TxS.new (w : World) : TxS w.heap.size (w.alloc (.cells #[.slice none 0 0] 70)) w.heap.size none 0 [] := ⟨heap_alloc_new w _, own_nil _ _ _, Nat.le_refl _⟩
theorem tadd (W g : Nat) (A : Option Addr) (c : Nat) (L : List (List UInt8)) (A0 : Option Addr) (c0 : Nat) (X : List (List UInt8)) (w : World) (hS : TxS W w g A c L) (hW : W ≤ w.heap.size) (hL : L.length + X.length ≤ 1000000) (hX : Sl w A0 (strs X)) :
  Calls Tryz.prog 26 #[.pointer (some ⟨g, 0, none⟩), .slice A0 X.length c0] w fun e w' => e = .returned (.tuple #[]) ∧ ∃ A' c', Tt W g (obS A L c) A' c' (L ++ X) w w' := by
 have k0 : w.cell? ⟨g, 0, none⟩ = some (.slice A L.length c) := (cell_of_row w g 0 _ _ (0, 0) hS.blk).trans rfl;have gl := hS.lt;have HS := hJz hS;clear hS;go_enter Tryz.func26, Tryz.ntmps26
 go_wp2_with (first
  | (at_builtin; refine wpList_app3 rfl (.tmp 8) (.tmp 9) rfl EStr rfl rfl HS.out.own (m := X.length) (by rw [strs_len, Nat.mul_one]) hX (strs_one _) (by unfold maxLen; omega) (by omega) hW ?_; intro A5 c5 w5 own5 hg5 hv5 hb5; have hblk5 : w5.heap[g]? = some (.cells #[.slice A L.length c] 70 (0, 0)) := (hg5.block g gl (fun e => own_type HS.out.own HS.out.blk (by decide) e.symm)).trans HS.out.blk; have k5 : w5.cell? ⟨g, 0, none⟩ = some (.slice A L.length c) := (cell_of_row w5 g 0 _ _ (0, 0) hblk5).trans rfl; have f5 : w5.frozen? ⟨g, 0, none⟩ = false := (by simp [World.frozen?, hblk5]); have gl5 := (Array.getElem?_eq_some_iff.1 hblk5).1; have HBK := hJz hblk5; have HG := hJz hg5; have HV := hJz hv5; have HO := hJz own5; clear hblk5 hg5 hv5 hb5 own5)
  | fail)
 go_end0
 have hlen : L.length + X.length = (L ++ X).length := List.length_append.symm
 refine ⟨rfl, A5, c5, ⟨?_, ?_, HS.out.ge⟩, (Chg.of_grown HG.out).trans (Chg.set (g := g) (row := (Value.slice A L.length c).ownBlock) 0 (.slice A5 (L.length + X.length) c5)) (.inl rfl), ?_⟩
 ·rw [← hlen];exact setbW 0 _ HBK.out
 ·rw [← hlen, strs_app];exact own_chg HO.out (Chg.set (g := g) (row := none) 0 (.slice A5 (L.length + X.length) c5)) (own_type HO.out HBK.out (by decide)) (fun b _ e => by cases e)
 ·unfold obS;rw [← hlen];exact HV.out.imp id fun e => ⟨_, e, Nat.le_refl _⟩
theorem wnum (n : Int) (hn : In64p n) (w : World) (hE : Ev w) :
  Calls Tryz.prog 29 #[.int .i64 n] w fun e w' => e = .returned (.string (S8 (Lib.itoa n))) ∧ Below w.heap.size w w' := by
 have HI := hJz (Tryz.strconv_FormatInt_10 n hn.1 hn.2 w hE.pow);clear hE;go_enter Tryz.func29, Tryz.ntmps29;go_wp2_with fail;refine HI.out.mono ?_;rintro e w1 ⟨rfl, k, os, rfl⟩;go_wp2_with fail;go_ret;exact ⟨rfl, Lib.below_grow _ _ (Nat.le_refl _) _ _⟩
theorem wsmall (n : Int) (hn : In64p n) (w : World) (hE : Ev w) :
  Calls Tryz.prog 27 #[.int .i64 n] w fun e w' => e = .returned (.string (S8 (Lib.itoa n))) ∧ Below w.heap.size w w' := by
 have HI := hJz (Tryz.strconv_Itoa n hn.1 hn.2 w hE.pow);clear hE;go_enter Tryz.func27, Tryz.ntmps27;go_wp2_with fail;refine HI.out.mono ?_;rintro e w1 ⟨rfl, k, os, rfl⟩;go_wp2_with fail;go_ret;exact ⟨rfl, Lib.below_grow _ _ (Nat.le_refl _) _ _⟩
theorem itoa_len (n : Int) (h : In64p n) : (Lib.itoa n).length ≤ 21 := Lib.itoa_length_le n h.1 h.2
theorem add_strW (a b : List UInt8) (h : a.length + b.length ≤ 1000000000) : ∀ W, (Op.stringOp .add (S8 a) (S8 b)).run Tryz.prog W = .ok (.string (S8 (a ++ b))) W := fun W => by
 rw [← S8_app];exact run_string_add_sum W _ _ (by rw [S8_size, S8_size]; omega)
def unitB (a b : Int) : List UInt8 := Lib.itoa a ++ 46 :: Lib.itoa b
theorem wjoin (A : Option Addr) (c : Nat) (L : List (List UInt8)) (sep : List UInt8) (w : World) (hs : Sl w A (strs L)) (hc : L.length ≤ c) (hL : L.length ≤ 1000000) (hne : L ≠ []) (hlen : (Lib.join L sep).length ≤ 100000000) :
  Calls Tryz.prog 32 #[.slice A L.length c, .string (S8 sep)] w fun e w' => e = .returned (.string (S8 (Lib.join L sep))) ∧ Below w.heap.size w w' := by
 have hpos : 0 < (strs L).length := by rw [strs_len]; exact List.length_pos_iff.2 hne
 obtain ⟨bk, o, rfl, hcells⟩ := hs (List.ne_nil_of_length_pos hpos)
 have hmap : (L.map S8).map (fun x : ByteArray => x.data.toList) = L := by
  rw [List.map_map]
  conv => rhs; rw [← List.map_id L]
  exact List.map_congr_left fun x _ => S8_data x
 have hc0 := hcells 0 _ (strs_at (List.length_pos_iff.2 hne))
 have h := Tryz.strings_Join bk o c (L.map S8) (S8 sep) w (fun j x hx => hcells j _ (by
  rw [List.getElem?_map] at hx
  cases hj : L[j]? with
  | none => rw [hj] at hx; cases hx
  | some l =>
   rw [hj] at hx;injection hx with hx;rw [← hx]
   simp [strs, hj])) (World.block_lt_of_cell? _ _ hc0) (by rw [List.length_map]; omega) (by rw [List.length_map]; exact hc) (by rw [hmap, S8_data]; omega)
 rw [hmap, S8_data, List.length_map] at h;exact h
theorem wline (W g : Nat) (A : Option Addr) (c : Nat) (L : List (List UInt8)) (w : World) (hS : TxS W w g A c L) (hL : L.length ≤ 1000000) (hne : L ≠ []) (hlen : (Lib.join L [32]).length ≤ 100000000) :
  Calls Tryz.prog 33 #[.pointer (some ⟨g, 0, none⟩)] w fun e w' => e = .returned (.string (S8 (Lib.join L [32]))) ∧ Below w.heap.size w w' := by
 have k0 : w.cell? ⟨g, 0, none⟩ = some (.slice A L.length c) := (cell_of_row w g 0 _ _ (0, 0) hS.blk).trans rfl;have gl := hS.lt;have hcap : L.length ≤ c := own_le hS.own;have HJ := hJz (wjoin A c L [32] w (Sl.of_own hS.own) hcap hL hne hlen);have hbl : S8 [32] = (⟨#[32]⟩ : ByteArray) := rfl;rw [hbl] at HJ;clear hS hbl hcap;go_enter Tryz.func33, Tryz.ntmps33;go_wp2_with fail;refine HJ.out.mono ?_;rintro e w1 ⟨rfl, hb1⟩;go_wp2_with fail;go_ret;exact ⟨rfl, hb1⟩
end
section
def opsW : List (List UInt8) := [[109, 101, 109, 98, 101, 114], [105, 110, 115, 116], [97, 115, 115, 101, 116], [97, 99, 99, 111, 117, 110, 116], [98, 105, 110, 100], [99, 97, 112], [116, 114, 97, 100, 101], [103, 105, 118, 101], [97, 99, 99, 101, 112, 116], [114, 101, 106, 101, 99, 116], [99, 97, 110, 99, 101, 108], [98, 108, 111, 99, 107], [97, 108, 108, 111, 99], [109, 97, 114, 107], [118, 97, 108, 117, 101], [100, 97, 121], [100, 101, 112, 111, 115, 105, 116], [119, 105, 116, 104, 100, 114, 97, 119], [101, 108, 101, 99, 116], [99, 111, 110, 115, 101, 110, 116], [100, 101, 102, 97, 117, 108, 116], [112, 111, 114, 116], [108, 105, 113, 117, 105, 100, 97, 116, 101], [102, 105, 108, 108], [99, 108, 111, 115, 101], [112, 111, 115, 105, 116, 105, 111, 110], [99, 97, 115, 104], [110, 101, 101, 100], [101, 120, 99, 101, 115, 115], [99, 97, 108, 108, 115], [112, 104, 97, 115, 101]]
def OPSB : ByteArray := { data := (([109, 101, 109, 98, 101, 114, 32, 105, 110, 115, 116, 32, 97, 115, 115, 101, 116, 32, 97, 99, 99, 111, 117, 110, 116, 32, 98, 105, 110, 100, 32, 99, 97, 112, 32, 116, 114, 97, 100, 101, 32, 103, 105, 118, 101, 32, 97, 99, 99].append [101, 112, 116, 32, 114, 101, 106, 101, 99, 116, 32, 99, 97, 110, 99, 101, 108, 32, 98, 108, 111, 99, 107, 32, 97, 108, 108, 111, 99, 32, 109, 97, 114, 107, 32, 118, 97, 108, 117, 101, 32, 100, 97, 121, 32, 100, 101, 112, 111]).append ([115, 105, 116, 32, 119, 105, 116, 104, 100, 114, 97, 119, 32, 101, 108, 101, 99, 116, 32, 99, 111, 110, 115, 101, 110, 116, 32, 100, 101, 102, 97, 117, 108, 116, 32, 112, 111, 114, 116, 32, 108, 105, 113, 117, 105, 100, 97, 116, 101].append [32, 102, 105, 108, 108, 32, 99, 108, 111, 115, 101, 32, 112, 111, 115, 105, 116, 105, 111, 110, 32, 99, 97, 115, 104, 32, 110, 101, 101, 100, 32, 101, 120, 99, 101, 115, 115, 32, 99, 97, 108, 108, 115, 32, 112, 104, 97, 115, 101])).toArray }
theorem ops_fields : Lib.fields OPSB.data.toList = opsW := by decide +kernel
theorem ops_ascii : ∀ (j : Nat) b, OPSB.data.toList[j]? = some b → b.toNat < 128 := fun j b h => by
 have h1 : ∀ b ∈ OPSB.data.toList, b.toNat < 128 := by decide +kernel
 exact h1 b (List.mem_of_getElem? h)
theorem opsW_len : opsW.length = 31 := rfl
def wordB (op : Int) : List UInt8 := if 1 ≤ op ∧ op ≤ 31 then opsW.getD (op - 1).toNat [] else []
theorem wfields (w : World) (hE : Ev w) :
  Calls Tryz.prog 46 #[.string OPSB] w fun e w' => e = .returned (.slice (some ⟨w.heap.size, 0, none⟩) 31 31) ∧ w' = w.alloc (.cells (strs opsW).toArray 9) := by
 have h := Tryz.strings_Fields_laid OPSB w (by decide +kernel) ops_ascii hE.spc;rw [ops_fields, opsW_len] at h;exact h
theorem ops_cell (w : World) {k : Nat} (hk : k < 31) : (w.alloc (.cells (strs opsW).toArray 9)).cell? ⟨w.heap.size, k, none⟩ = some (.string (S8 (opsW.getD k []))) := by
 have h := heap_alloc_new w (.cells (strs opsW).toArray 9);have hk2 : k < opsW.length := hk;rw [cell_of_row _ w.heap.size k _ _ (0, 0) h];simp [strs, List.getD_eq_getElem?_getD, hk2]
theorem wword (op : Int) (h64 : In64p op) (w : World) (hE : Ev w) :
  Calls Tryz.prog 14 #[.int .i64 op] w fun e w' => e = .returned (.string (S8 (wordB op))) ∧ Below w.heap.size w w' := by
 have HF := hJz (wfields w hE);clear hE
 by_cases h1 : op < 1
 ·have hw : wordB op = [] := by unfold wordB; rw [if_neg (by omega)]
  rw [hw];clear hw;go_enter Tryz.func14, Tryz.ntmps14;go_wp2_with fail;refine HF.out.mono ?_;rintro e w1 ⟨rfl, rfl⟩;go_wp2_with fail;go_ret;exact ⟨rfl, since_alloc (Below.refl _ w) _⟩
 ·by_cases h2 : 31 < op
  ·have hw : wordB op = [] := by unfold wordB; rw [if_neg (by omega)]
   rw [hw];clear hw;go_enter Tryz.func14, Tryz.ntmps14;go_wp2_with fail;refine HF.out.mono ?_;rintro e w1 ⟨rfl, rfl⟩;go_wp2_with fail;go_ret;exact ⟨rfl, since_alloc (Below.refl _ w) _⟩
  ·obtain ⟨k, rfl⟩ : ∃ k : Nat, op = (k : Int) + 1 := ⟨(op - 1).toNat, by omega⟩;have hk : k < 31 := by omega
   have hw : wordB ((k : Int) + 1) = opsW.getD k [] := by
    unfold wordB;rw [if_pos (by omega)]
    congr 1
    omega
   rw [hw];have hc := ops_cell w hk;have hwl := (since_alloc (Below.refl _ w) (.cells (strs opsW).toArray 9)).size;have hwl : w.heap.size < (w.alloc (.cells (strs opsW).toArray 9)).heap.size := by rw [World.size_alloc]; omega
   have HB : Hid (Below w.heap.size w (w.alloc (.cells (strs opsW).toArray 9))) := hJz (since_alloc (Below.refl _ w) _);have hi : ((k : Int) + 1 - 1) = (k : Int) := by omega
   have hk0 : (0 : Int) ≤ (k : Int) := by omega
   have hk1 : (k : Int) < 31 := by omega
   obtain ⟨V, hV⟩ : ∃ V, w.alloc (.cells (strs opsW).toArray 9) = V := ⟨_, rfl⟩;rw [hV] at HF hc hwl HB;clear hw hV h64;go_enter Tryz.func14, Tryz.ntmps14;go_wp2_with fail;refine HF.out.mono ?_;rintro e w1 ⟨rfl, rfl⟩;go_wp2_with fail;go_ret;exact ⟨rfl, HB.out⟩
def opB (l : List UInt8) : Int := Lib.idxOfS (opsW.map S8) (S8 l) + 1
theorem idx_rangeS : ∀ (zs : List ByteArray) (x : ByteArray) (k : Nat), Lib.idxFromS zs x k = -1 ∨ ((k : Int) ≤ Lib.idxFromS zs x k ∧ Lib.idxFromS zs x k < k + zs.length)
 | [], x, k => .inl rfl
 | y :: r, x, k => by
  unfold Lib.idxFromS
  split
  ·exact .inr ⟨by omega, by rw [List.length_cons]; omega⟩
  ·rcases idx_rangeS r x (k + 1) with h | h
   ·exact .inl h
   ·exact .inr ⟨by omega, by rw [List.length_cons]; omega⟩
theorem opB_range (l : List UInt8) : 0 ≤ opB l ∧ opB l ≤ 31 := by
 have h := idx_rangeS (opsW.map S8) (S8 l) 0;have h2 : (opsW.map S8).length = 31 := rfl;unfold opB Lib.idxOfS;rw [h2] at h;omega
theorem wop (l : List UInt8) (w : World) (hE : Ev w) :
  Calls Tryz.prog 15 #[.string (S8 l)] w fun e w' => e = .returned (.int .i64 (opB l)) ∧ Below w.heap.size w w' := by
 have HF := hJz (wfields w hE);have HB : Hid (Below w.heap.size w (w.alloc (.cells (strs opsW).toArray 9))) := hJz (since_alloc (Below.refl _ w) _)
 have hi := Tryz.slices_Index_string w.heap.size 0 31 31 (opsW.map S8) (S8 l) (w.alloc (.cells (strs opsW).toArray 9)) (by decide) (by decide) (fun j hj => by
  have hj : j < 31 := hj;rw [Nat.zero_add, ops_cell w hj];rw [List.getD_eq_getElem?_getD, List.getD_eq_getElem?_getD, List.getElem?_map];have hj2 : j < opsW.length := hj
  simp [hj2])
 have ht : (opsW.map S8).take 31 = opsW.map S8 := List.take_of_length_le (by decide);rw [ht] at hi;have HI := hJz hi;have HO : Hid (opB l = Lib.idxOfS (opsW.map S8) (S8 l) + 1) := hJz rfl;have hr := opB_range l;have hx1 : -1 ≤ Lib.idxOfS (opsW.map S8) (S8 l) := by have := HO.out; omega
 have hx2 : Lib.idxOfS (opsW.map S8) (S8 l) ≤ 30 := by have := HO.out; omega
 clear hr;generalize Lib.idxOfS (opsW.map S8) (S8 l) = x at *;generalize opB l = y at *;clear hi ht hE;go_enter Tryz.func15, Tryz.ntmps15;go_wp2_with fail;refine HF.out.mono ?_;rintro e w1 ⟨rfl, rfl⟩;go_wp2_with fail;refine HI.out.mono ?_;rintro e w2 ⟨rfl, rfl⟩;go_wp2_with fail;go_ret;exact ⟨by rw [HO.out]; rfl, HB.out⟩
end
end Go.Proofs.YtpmnjojednbnpaaGreatDoor
