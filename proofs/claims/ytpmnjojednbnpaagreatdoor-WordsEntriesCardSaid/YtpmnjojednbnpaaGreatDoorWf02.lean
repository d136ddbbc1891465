import Derived.BigQuiet
import Derived.Deep.CutBlock
import Derived.Deep.CutRange
import Derived.Deep.DeepCutAuto
import Derived.Deep.RegionHeld3
import Derived.Deep.RegionLaw
import Derived.IntWalk
import Derived.Laws.Bits64
import Derived.Laws.BitsAllLaws
import Derived.Test.YtpmnjojednbnpaaGreatDoorWf01
import Derived.Lib.AppendStr
set_option maxHeartbeats 16000000
set_option maxRecDepth 100000
set_option linter.unusedVariables false
set_option linter.unusedSimpArgs false
namespace Go.Proofs.YtpmnjojednbnpaaGreatDoor
open Go.ChangeShapes Go.WideShapes Go.ChangeAt Go.RowKit
section
theorem EU8 : Elem Tryz.prog 54 5 1 1 := Elem.mk' (z := .int .u8 0) (by kernel_rfl) (by kernel_rfl) (by decide) (by decide)
def BRowP (B : Nat) (w' : World) (e : Ending) (l : List Nat) : Prop := ∃ A' c', e = .returned (.slice A' l.length c') ∧ w'.ownsRow B 5 1 (.slice A' l.length c') l.length (by8 l)
theorem rpint_any (n : Int) (h6 : In64p n) (w : World) :
  Calls Tryz.prog 87 #[.int .i64 n] w fun e w' => BRowP w.heap.size w' e (packI n) ∧ Below w.heap.size w w' := by
 obtain ⟨X, hX⟩ : ∃ X, packI n = X := ⟨_, rfl⟩;obtain ⟨u0, hu0⟩ : ∃ u, zz n = u := ⟨_, rfl⟩;have hlt := zz_lt h6;rw [hu0] at hlt;have HX : Hid (vb u0 = X) := hJz (by rw [← hX, packI, hu0]);have HXL : Hid (X.length ≤ 10) := hJz (by rw [← HX.out]; exact vb_len10 hlt);have HLT := hJz hlt;rw [hX];clear hX
 have key : (0 ≤ n ∧ 2 * n = (u0 : Int)) ∨ (¬ 0 ≤ n ∧ 2 * (-(n + 1)) + 1 = (u0 : Int)) := by
  rw [← hu0];unfold zz
  by_cases h : 0 ≤ n
  ·left; rw [if_pos h]; omega
  ·right; rw [if_neg h]; omega
 unfold In64p at h6;clear hu0;have key_ := True.intro
 rcases key with ⟨hn, he⟩ | ⟨hn, he⟩
 ·go_enter Tryz.func87, Tryz.ntmps87;go_upto_region 5 with fail;clear he hn key_;go_wp2_with fail;go_loopw [3, 4] (fun uv ov wr => ∃ (z : Int) (pre : List Nat) (A2 : Option Addr) (c2 : Nat), uv = .int .u64 z ∧ 0 ≤ z ∧ ov = .slice A2 pre.length c2 ∧ wr.ownsRow w.heap.size 5 1 (.slice A2 pre.length c2) pre.length (by8 pre) ∧ pre ++ vb z.toNat = X ∧ z < 18446744073709551616 ∧ Below w.heap.size w wr) (fun uv _ _ => (intOf uv).toNat)
  case atStart => exact ⟨(u0 : Int), [], none, 0, rfl, by omega, rfl, own_nil _ _ _, HX.out, by have := HLT.out; omega, Below.refl _ _⟩
  case round =>
   obtain ⟨z, pre, A2, c2, rfl, hz0, rfl, own2, hpx, hul, hB⟩ := hrel;have hpl : pre.length ≤ 10 := by have h1 := HXL.out; rw [← hpx, List.length_append] at h1; omega
   have hsz := hB.size
   by_cases hlt : z < 128
   ·have hg : ¬ (128 : Int) ≤ z := by omega
    have HE : Hid (pre ++ [z.toNat] = X) := hJz (by rw [← hpx, vb_low (by omega)]);have hw1 : IntKind.u8.wrap z = z := by rw [IntKind.wrap_u8']; omega
    have HZT := hJz (show ((z.toNat : Nat) : Int) = z by omega);clear hpx
    go_wp2_with (first
     | (at_builtin; refine wpList_app rfl (.tmp 27) (.tmp 30) rfl EU8 rfl rfl (own2.alloc _) (m := 1) (news := [.int .u8 z]) rfl (Sl.new_ _ _ _) (fun u hu => by simp only [List.mem_cons, List.not_mem_nil, or_false] at hu; subst hu; rfl) (by unfold maxLen; omega) (by omega) (by simp only [World.size_alloc]; omega) ?_; intro A3 c3 w3 own3 hg3 hb3)
     | fail)
    have hB3 := (since_alloc hB (.cells #[.int .u8 z] 5)).trans hb3;go_ret;rw [← HE.out];exact ⟨⟨A3, c3, by simp, by simpa [by8, HZT.out] using own3⟩, hB3⟩
   ·have hg : (128 : Int) ≤ z := by omega
    have HE : Hid ((pre ++ [(z % 128 + 128).toNat]) ++ vb (z / 128).toNat = X) := hJz (by
     rw [← hpx, vb_high (u := z.toNat) (by omega), List.append_assoc];have e1 : (z % 128 + 128).toNat = z.toNat % 128 + 128 := by omega
     have e2 : (z / 128).toNat = z.toNat / 128 := by omega
     rw [e1, e2]; rfl)
    have HM := hJz (show 0 ≤ z / 128 ∧ z / 128 < 18446744073709551616 ∧ (z / 128).toNat < z.toNat by omega);have HZT := hJz (show (((z % 128 + 128).toNat : Nat) : Int) = z % 128 + 128 by omega);have hm0 : 0 ≤ z % 128 := by omega
    have hm1 : z % 128 < 128 := by omega
    have hw2 : IntKind.u64.wrap (z % 128 + 128) = z % 128 + 128 := IntWalk.u64_in _ (by omega);have hw3 : IntKind.u8.wrap (z % 128 + 128) = z % 128 + 128 := by rw [IntKind.wrap_u8']; omega
    have hw4 : IntKind.u64.wrap (z / 128) = z / 128 := IntWalk.u64_in _ (by omega);clear hpx
    go_wp2_with (first
     | (at_builtin; refine wpList_app rfl (.tmp 18) (.tmp 23) rfl EU8 rfl rfl (own2.alloc _) (m := 1) (news := [.int .u8 (z % 128 + 128)]) rfl (Sl.new_ _ _ _) (fun u hu => by simp only [List.mem_cons, List.not_mem_nil, or_false] at hu; subst hu; rfl) (by unfold maxLen; omega) (by omega) (by simp only [World.size_alloc]; omega) ?_; intro A3 c3 w3 own3 hg3 hb3)
     | fail)
    have hB3 := (since_alloc hB (.cells #[.int .u8 (z % 128 + 128)] 5)).trans hb3;go_roundw
    case rel => exact ⟨z / 128, pre ++ [(z % 128 + 128).toNat], A3, c3, rfl, HM.out.1, by simp, by simpa [by8, HZT.out] using own3, HE.out, HM.out.2.1, hB3⟩
    case measure => exact HM.out.2.2
 ·go_enter Tryz.func87, Tryz.ntmps87;go_upto_region 5 with fail;clear he hn key_;go_wp2_with fail;go_loopw [3, 4] (fun uv ov wr => ∃ (z : Int) (pre : List Nat) (A2 : Option Addr) (c2 : Nat), uv = .int .u64 z ∧ 0 ≤ z ∧ ov = .slice A2 pre.length c2 ∧ wr.ownsRow w.heap.size 5 1 (.slice A2 pre.length c2) pre.length (by8 pre) ∧ pre ++ vb z.toNat = X ∧ z < 18446744073709551616 ∧ Below w.heap.size w wr) (fun uv _ _ => (intOf uv).toNat)
  case atStart => exact ⟨(u0 : Int), [], none, 0, rfl, by omega, rfl, own_nil _ _ _, HX.out, by have := HLT.out; omega, Below.refl _ _⟩
  case round =>
   obtain ⟨z, pre, A2, c2, rfl, hz0, rfl, own2, hpx, hul, hB⟩ := hrel;have hpl : pre.length ≤ 10 := by have h1 := HXL.out; rw [← hpx, List.length_append] at h1; omega
   have hsz := hB.size
   by_cases hlt : z < 128
   ·have hg : ¬ (128 : Int) ≤ z := by omega
    have HE : Hid (pre ++ [z.toNat] = X) := hJz (by rw [← hpx, vb_low (by omega)]);have hw1 : IntKind.u8.wrap z = z := by rw [IntKind.wrap_u8']; omega
    have HZT := hJz (show ((z.toNat : Nat) : Int) = z by omega);clear hpx
    go_wp2_with (first
     | (at_builtin; refine wpList_app rfl (.tmp 27) (.tmp 30) rfl EU8 rfl rfl (own2.alloc _) (m := 1) (news := [.int .u8 z]) rfl (Sl.new_ _ _ _) (fun u hu => by simp only [List.mem_cons, List.not_mem_nil, or_false] at hu; subst hu; rfl) (by unfold maxLen; omega) (by omega) (by simp only [World.size_alloc]; omega) ?_; intro A3 c3 w3 own3 hg3 hb3)
     | fail)
    have hB3 := (since_alloc hB (.cells #[.int .u8 z] 5)).trans hb3;go_ret;rw [← HE.out];exact ⟨⟨A3, c3, by simp, by simpa [by8, HZT.out] using own3⟩, hB3⟩
   ·have hg : (128 : Int) ≤ z := by omega
    have HE : Hid ((pre ++ [(z % 128 + 128).toNat]) ++ vb (z / 128).toNat = X) := hJz (by
     rw [← hpx, vb_high (u := z.toNat) (by omega), List.append_assoc];have e1 : (z % 128 + 128).toNat = z.toNat % 128 + 128 := by omega
     have e2 : (z / 128).toNat = z.toNat / 128 := by omega
     rw [e1, e2]; rfl)
    have HM := hJz (show 0 ≤ z / 128 ∧ z / 128 < 18446744073709551616 ∧ (z / 128).toNat < z.toNat by omega);have HZT := hJz (show (((z % 128 + 128).toNat : Nat) : Int) = z % 128 + 128 by omega);have hm0 : 0 ≤ z % 128 := by omega
    have hm1 : z % 128 < 128 := by omega
    have hw2 : IntKind.u64.wrap (z % 128 + 128) = z % 128 + 128 := IntWalk.u64_in _ (by omega);have hw3 : IntKind.u8.wrap (z % 128 + 128) = z % 128 + 128 := by rw [IntKind.wrap_u8']; omega
    have hw4 : IntKind.u64.wrap (z / 128) = z / 128 := IntWalk.u64_in _ (by omega);clear hpx
    go_wp2_with (first
     | (at_builtin; refine wpList_app rfl (.tmp 18) (.tmp 23) rfl EU8 rfl rfl (own2.alloc _) (m := 1) (news := [.int .u8 (z % 128 + 128)]) rfl (Sl.new_ _ _ _) (fun u hu => by simp only [List.mem_cons, List.not_mem_nil, or_false] at hu; subst hu; rfl) (by unfold maxLen; omega) (by omega) (by simp only [World.size_alloc]; omega) ?_; intro A3 c3 w3 own3 hg3 hb3)
     | fail)
    have hB3 := (since_alloc hB (.cells #[.int .u8 (z % 128 + 128)] 5)).trans hb3;go_roundw
    case rel => exact ⟨z / 128, pre ++ [(z % 128 + 128).toNat], A3, c3, rfl, HM.out.1, by simp, by simpa [by8, HZT.out] using own3, HE.out, HM.out.2.1, hB3⟩
    case measure => exact HM.out.2.2
end
section
theorem xor_ones {a : Nat} (h : a < 18446744073709551616) : a ^^^ 18446744073709551615 = 18446744073709551615 - a := by
 have h1 := congrArg BitVec.toNat (BitVec.xor_allOnes (x := BitVec.ofNat 64 a));rw [BitVec.toNat_xor, BitVec.toNat_not, BitVec.toNat_allOnes, BitVec.toNat_ofNat, Nat.mod_eq_of_lt (by simpa using h)] at h1;exact h1
theorem xor_zz {n : Int} (h : -9223372036854775808 ≤ n ∧ n ≤ 9223372036854775807) : bits BinOp.xor IntKind.u64 (IntKind.u64.wrap (wrap64 (n * 2))) (IntKind.u64.wrap (n / 9223372036854775808)) = (zz n : Int) := by
 have e64 : ∀ m, IntKind.u64.wrap m = m % 18446744073709551616 := fun m => by simp [IntKind.wrap, IntKind.bits, IntKind.signed]
 have hw : IntKind.u64.wrap (wrap64 (n * 2)) = if 0 ≤ n then 2 * n else 18446744073709551616 + 2 * n := by
  rw [e64];unfold wrap64
  by_cases h0 : 0 ≤ n
  ·rw [if_pos h0]; omega
  ·rw [if_neg h0]; omega
 have hq : IntKind.u64.wrap (n / 9223372036854775808) = if 0 ≤ n then 0 else 18446744073709551615 := by
  rw [e64]
  by_cases h0 : 0 ≤ n
  ·rw [if_pos h0]; omega
  ·rw [if_neg h0]; omega
 rw [hw, hq];unfold zz
 by_cases h0 : 0 ≤ n
 ·rw [if_pos h0, if_pos h0, if_pos h0, u64_xor _ _ (by omega) (by omega) (by omega) (by omega)];have e : (0 : Int).toNat = 0 := rfl;rw [e, Nat.xor_zero];omega
 ·rw [if_neg h0, if_neg h0, if_neg h0, u64_xor _ _ (by omega) (by omega) (by omega) (by omega)];have e : (18446744073709551615 : Int).toNat = 18446744073709551615 := rfl;rw [e, xor_ones (by omega)];omega
structure Chg (g : Nat) (row : Option Nat) (w w' : World) : Prop where
  os : w'.os = w.os
  tape : w'.tape = w.tape
  output : w'.output = w.output
  size : w.heap.size ≤ w'.heap.size
  block : ∀ k, k < w.heap.size → k ≠ g → some k ≠ row → w'.heap[k]? = w.heap[k]?
theorem Chg.refl (g : Nat) (row : Option Nat) (w : World) : Chg g row w w := ⟨rfl, rfl, rfl, Nat.le_refl _, fun _ _ _ _ => rfl⟩
theorem Chg.of_below {g : Nat} {row : Option Nat} {w w' : World} (h : Below w.heap.size w w') : Chg g row w w' := ⟨h.os, h.tape, h.output, h.size, fun k hk _ _ => h.block k hk⟩
theorem Chg.of_grown {g : Nat} {row : Option Nat} {w w' : World} (h : w.grownBy w' row) : Chg g row w w' := ⟨h.os, h.tape, h.output, h.size, fun k hk _ hr => h.block k hk hr⟩
theorem Chg.set {g : Nat} {row : Option Nat} {w : World} (i : Nat) (v : Value) : Chg g row w (w.setCell ⟨g, i, none⟩ v) :=
 ⟨rfl, rfl, rfl, by simp, fun k _ hk _ => Below.heap_setCell _ _ _ _ hk⟩
theorem Chg.trans {g : Nat} {row row1 : Option Nat} {w w1 w2 : World} (h : Chg g row w w1) (k : Chg g row1 w1 w2) (hr : row1 = row ∨ ∃ b, row1 = some b ∧ w.heap.size ≤ b) : Chg g row w w2 :=
 ⟨k.os.trans h.os, k.tape.trans h.tape, k.output.trans h.output, Nat.le_trans h.size k.size, fun j hj hg hn => (k.block j (Nat.lt_of_lt_of_le hj h.size) hg (by
  rcases hr with rfl | ⟨b, rfl, hb⟩
  ·exact hn
  ·intro e; injection e with e; omega)).trans (h.block j hj hg hn)⟩
theorem Chg.below {g : Nat} {row : Option Nat} {w w' : World} {B : Nat} (h : Chg g row w w') (hB : B ≤ w.heap.size) (hg : B ≤ g) (hr : ∀ b, row = some b → B ≤ b) : Below B w w' :=
 ⟨h.os, h.tape, h.output, h.size, fun k hk => h.block k (by omega) (by omega) (fun e => by have := hr k e.symm; omega)⟩
structure Wr (w : World) (g : Nat) (A : Option Addr) (c : Nat) (bs : List Nat) : Prop where
  blk : w.heap[g]? = some (.cells #[.bool true, .slice A bs.length c] 217 (0, 0))
  own : w.ownsRow (g + 1) 5 1 (.slice A bs.length c) bs.length (by8 bs)
theorem blk_got {w : World} {g : Nat} {a b : Value} {t : Nat} (h : w.heap[g]? = some (.cells #[a, b] t (0, 0))) : w.cell? ⟨g, 0, none⟩ = some a ∧ w.cell? ⟨g, 1, none⟩ = some b ∧ w.frozen? ⟨g, 0, none⟩ = false ∧ w.frozen? ⟨g, 1, none⟩ = false ∧ g < w.heap.size := by
 refine ⟨by rw [cell_of_row w g 0 _ t (0, 0) h]; rfl, by rw [cell_of_row w g 1 _ t (0, 0) h]; rfl, by simp [World.frozen?, h], by simp [World.frozen?, h], ?_⟩
 rcases Nat.lt_or_ge g w.heap.size with h1 | h1
 ·exact h1
 ·rw [Array.getElem?_eq_none h1] at h; cases h
theorem Wr.lt {w : World} {g : Nat} {A : Option Addr} {c : Nat} {bs : List Nat} (h : Wr w g A c bs) : g < w.heap.size := (blk_got h.blk).2.2.2.2
theorem Wr.ne {w : World} {g : Nat} {A : Option Addr} {c : Nat} {bs : List Nat} (h : Wr w g A c bs) : (Value.slice A bs.length c).ownBlock ≠ some g := fun e => by have := own_ge h.own g e; omega
theorem Wr.below {w w' : World} {g : Nat} {A : Option Addr} {c : Nat} {bs : List Nat} (h : Wr w g A c bs) (hb : Below w.heap.size w w') : Wr w' g A c bs := ⟨by rw [hb.block g h.lt]; exact h.blk, own_below h.own hb⟩
theorem Wr.alloc {w : World} {g : Nat} {A : Option Addr} {c : Nat} {bs : List Nat} (h : Wr w g A c bs) (o : Obj) : Wr (w.alloc o) g A c bs := h.below ((Below.refl _ _).alloc (Nat.le_refl _) o)
theorem Wr.put {w W : World} {g : Nat} {A A' : Option Addr} {c c' : Nat} {bs new : List Nat} (h : Wr w g A c bs) (hg : w.grownBy W (Value.slice A bs.length c).ownBlock)
  (hown : W.ownsRow (g + 1) 5 1 (.slice A' (bs ++ new).length c') (bs ++ new).length (by8 (bs ++ new))) : Wr (W.setCell ⟨g, 1, none⟩ (.slice A' (bs ++ new).length c')) g A' c' (bs ++ new) := by
 have hblk : W.heap[g]? = some (.cells #[.bool true, .slice A bs.length c] 217 (0, 0)) := by rw [hg.block g h.lt (fun e => h.ne e.symm)]; exact h.blk
 refine ⟨?_, own_far1 hown (p := ⟨g, 1, none⟩) (fun e => by have := own_ge hown g e; omega) _⟩;rw [setCell_eq_setRow W g 1 _ 217 (0, 0) _ hblk];have := setRow_heap W g _ ((#[.bool true, .slice A bs.length c] : Array Value).set! 1 (.slice A' (bs ++ new).length c')) 217 (0, 0) hblk;simpa using this
theorem Wr.step {w0 V W : World} {g : Nat} {RW : Option Nat} {A A' : Option Addr} {c c' : Nat} {pre : List Nat} {z : Int} (hW : Wr V g A c pre) (hC : Chg g RW w0 V)
  (hrow : (Value.slice A pre.length c).ownBlock = RW ∨ ∃ b, (Value.slice A pre.length c).ownBlock = some b ∧ w0.heap.size ≤ b) (hg : V.grownBy W (Value.slice A pre.length c).ownBlock)
  (hown : W.ownsRow (g + 1) 5 1 (.slice A' (pre.length + 1) c') (pre.length + 1) (by8 pre ++ [.int .u8 z])) (hv : (Value.slice A' (pre.length + 1) c').ownBlock = (Value.slice A pre.length c).ownBlock ∨ (Value.slice A' (pre.length + 1) c').ownBlock = some V.heap.size) (hz : 0 ≤ z) :
  Wr (W.setCell ⟨g, 1, none⟩ (.slice A' (pre.length + 1) c')) g A' c' (pre ++ [z.toNat]) ∧ Chg g RW w0 (W.setCell ⟨g, 1, none⟩ (.slice A' (pre.length + 1) c')) ∧
   ((Value.slice A' (pre ++ [z.toNat]).length c').ownBlock = RW ∨ ∃ b, (Value.slice A' (pre ++ [z.toNat]).length c').ownBlock = some b ∧ w0.heap.size ≤ b) := by
 have hz2 : ((z.toNat : Nat) : Int) = z := by omega
 have e1 : (pre ++ [z.toNat]).length = pre.length + 1 := by simp
 refine ⟨?_, (hC.trans (Chg.of_grown hg) hrow).trans (Chg.set 1 _) (.inl rfl), ?_⟩
 ·have := hW.put (new := [z.toNat]) hg (A' := A') (c' := c') (by rw [e1]; simpa [by8, hz2] using hown);rw [e1] at this;exact this
 ·rw [e1]
  rcases hv with hv | hv
  ·rw [hv]; exact hrow
  ·exact .inr ⟨_, hv, hC.size⟩
theorem or_128 {z : Int} (h0 : 0 ≤ z) : bits BinOp.or IntKind.u8 (z % 256) 128 = z % 128 + 128 := by
 have hn : ∀ m, m < 256 → m ||| 128 = m % 128 + 128 := by decide
 rw [u8_or _ _ (by omega) (by omega) (by omega) (by omega)];have e : (128 : Int).toNat = 128 := rfl;rw [e, hn _ (by omega)];omega
theorem wfit_any (g : Nat) (m : Bool) (v : Value) (w : World) (h : w.heap[g]? = some (.cells #[.bool m, v] 217 (0, 0))) :
  Calls Tryz.prog 139 #[.pointer (some ⟨g, 0, none⟩)] w fun e w' => e = .returned (.bool m) ∧ Below w.heap.size w w' := by
 obtain ⟨k0, k1, z0, z1, lg⟩ := blk_got h;go_enter Tryz.func139, Tryz.ntmps139;go_wp2_with fail;go_ret;exact ⟨rfl, Below.refl _ _⟩
theorem wint_any (g : Nat) (A : Option Addr) (c : Nat) (bs : List Nat) (A0 : Option Addr) (cap : Nat) (l : List Int) (w : World) (hW : Wr w g A c bs) (hl : l.length ≤ 1000) (hbl : bs.length ≤ 1000000) (h6 : ∀ x ∈ l, In64p x) (hs : Sl w A0 (ints .i64 l))
  (hf : ∀ b o, A0 = some ⟨b, o, none⟩ → l ≠ [] → b ≠ g ∧ (Value.slice A bs.length c).ownBlock ≠ some b) :
  Calls Tryz.prog 114 #[.pointer (some ⟨g, 0, none⟩), .slice A0 l.length cap] w fun e w' => e = .returned (.pointer (some ⟨g, 0, none⟩)) ∧ ∃ A' c', Wr w' g A' c' (bs ++ packL l) ∧ Chg g (Value.slice A bs.length c).ownBlock w w' ∧
   ((Value.slice A' (bs ++ packL l).length c').ownBlock = (Value.slice A bs.length c).ownBlock ∨ ∃ b, (Value.slice A' (bs ++ packL l).length c').ownBlock = some b ∧ w.heap.size ≤ b) := by
 have hFT := wfit_any g true _ w hW.blk;have hlg := hW.lt;obtain ⟨RW, hRW⟩ : ∃ RW, (Value.slice A bs.length c).ownBlock = RW := ⟨_, rfl⟩;have HR0 := hJz hRW;rw [hRW] at hf;have HF := hJz hf;have H6 := hJz h6;have HS := hJz hs
 have HPL : Hid (∀ k, k ≤ l.length → (packL (l.take k)).length ≤ 10 * k) := hJz fun k => by
  induction k with
  | zero => intro _; simp [packL]
  | succ k ih =>
   intro hk;have hlt : k < l.length := by omega
   rw [List.take_succ_eq_append_getElem hlt, packL_append, List.length_append];have h1 := ih (by omega);have h2 := vb_len10 (zz_lt (h6 _ (List.getElem_mem hlt)));have h3 : packL [l[k]] = vb (zz l[k]) := by simp [packL, packI]
   rw [h3];omega
 rw [hRW];clear hs hf h6 hRW;go_enter Tryz.func114, Tryz.ntmps114;go_wp2_with fail;refine hFT.mono ?_;rintro e w1 ⟨rfl, hb⟩;have hW1 := hW.below hb;have hC1 : Chg g RW w w1 := Chg.of_below hb;clear hb hFT hW;go_wp2_with fail;go_loopw [14] (fun i wr => ∃ (k : Nat) (A2 : Option Addr) (c2 : Nat), k ≤ l.length ∧ i = .int .i64 k ∧ Wr wr g A2 c2 (bs ++ packL (l.take k)) ∧ Chg g RW w wr ∧ ((Value.slice A2 (bs ++ packL (l.take k)).length c2).ownBlock = RW ∨ ∃ b, (Value.slice A2 (bs ++ packL (l.take k)).length c2).ownBlock = some b ∧ w.heap.size ≤ b)) (fun i _ => l.length - (intOf i).toNat)
 case atStart => exact ⟨0, A, c, by omega, rfl, by simpa [packL] using hW1, hC1, .inl (by simpa [packL] using HR0.out)⟩
 case round =>
  obtain ⟨k, A2, c2, hk, rfl, hW, hC, hrow⟩ := hrel;clear hW1 hC1
  by_cases hlt : k < l.length
  ·have hlk : (k : Int) < (l.length : Int) := by omega
   have hne : l ≠ [] := fun e => by subst e; simp at hlt
   obtain ⟨b, o, hA0, hc0⟩ := HS.out.int hlt;obtain ⟨hbg, hbr⟩ := HF.out b o hA0 hne;have hbs := World.block_lt_of_cell? _ _ hc0
   have hcr : wr.cell? ⟨b, o + k, none⟩ = some (.int .i64 l[k]) := by
    rw [World.cell?_of_block (a := ⟨b, o + k, none⟩) (hC.block b hbs hbg (fun e => hbr e.symm))]; exact hc0
   have hp6 := H6.out _ (List.getElem_mem hlt);have HT : Hid (packL (l.take (k + 1)) = packL (l.take k) ++ vb (zz l[k])) := hJz (by rw [List.take_succ_eq_append_getElem hlt, packL_append]; simp [packL, packI]);have hpk := HPL.out k hk;obtain ⟨n, hn⟩ : ∃ n, l[k] = n := ⟨_, rfl⟩;obtain ⟨P, hP⟩ : ∃ P, bs ++ packL (l.take k) = P := ⟨_, rfl⟩;rw [hn] at hcr hp6 HT;have hPl : P.length ≤ 1100000 := by rw [← hP, List.length_append]; omega
   have HTP : Hid (bs ++ packL (l.take (k + 1)) = P ++ vb (zz n)) := hJz (by rw [HT.out, ← hP, List.append_assoc]);rw [hP] at hW hrow;subst hA0;have hz6 := zz_lt hp6;unfold In64p at hp6;clear hn hP hpk hc0 HT hne hbg hbr hbs;go_upto_region 6 with fail;go_upto_region 7 with fail;rw [xor_zz hp6];have hz0 : (0 : Int) ≤ (zz n : Int) := by omega
   have HV : Hid ((zz n : Int).toNat = zz n) := hJz (by omega);have HUL : Hid ((zz n : Int) < 18446744073709551616) := hJz (by omega);generalize hZ : (zz n : Int) = u0 at *;obtain ⟨X, hX⟩ : ∃ X, P ++ vb (zz n) = X := ⟨_, rfl⟩;have hXL : X.length ≤ 1100010 := by rw [← hX, List.length_append]; have := vb_len10 hz6; omega
   have HX : Hid (P ++ vb u0.toNat = X) := hJz (by rw [HV.out]; exact hX);rw [hX] at HTP;clear hX hZ HV hz6 hp6;generalize wr = wz at *;go_loopw [7] (fun uv wr => ∃ (z : Int) (pre : List Nat) (A2 : Option Addr) (c2 : Nat), uv = .int .u64 z ∧ 0 ≤ z ∧ z < 18446744073709551616 ∧ pre ++ vb z.toNat = X ∧ Wr wr g A2 c2 pre ∧ Chg g RW w wr ∧ ((Value.slice A2 pre.length c2).ownBlock = RW ∨ ∃ b, (Value.slice A2 pre.length c2).ownBlock = some b ∧ w.heap.size ≤ b)) (fun uv _ => (intOf uv).toNat)
   case atStart => exact ⟨u0, P, A2, c2, rfl, hz0, HUL.out, HX.out, hW, hC, hrow⟩
   case round =>
    clear hW hC hrow HX HUL hz0;obtain ⟨z, pre, A4, c4, rfl, hz0, hzl, hpx, hW, hC, hrow⟩ := hrel;have hpl : pre.length ≤ 1100010 := by rw [← hpx, List.length_append] at hXL; omega
    have hsz : g + 1 ≤ wr.heap.size := hW.lt;obtain ⟨k0, k1, z1, z2, lg⟩ := blk_got hW.blk
    by_cases hlt : z < 128
    ·have hg : ¬ (128 : Int) ≤ z := by omega
     have HE : Hid (pre ++ [z.toNat] = X) := hJz (by rw [← hpx, vb_low (by omega)]);have hw1 : IntKind.u8.wrap z = z := by rw [IntKind.wrap_u8']; omega
     have HZT := hJz (show ((z.toNat : Nat) : Int) = z by omega)
     have HBG : Hid (∀ W, (wr.alloc (.cells #[.int .u8 z] 5)).grownBy W (Value.slice A4 pre.length c4).ownBlock → W.heap[g]? = some (.cells #[.bool true, .slice A4 pre.length c4] 217 (0, 0))) := hJz fun W hg => by
      rw [hg.block g (by rw [World.size_alloc]; have := hW.lt; omega) (fun e => hW.ne e.symm)]; exact (hW.alloc (.cells #[.int .u8 z] 5)).blk
     clear hpx
     go_wp2_with (first
      | (at_builtin; refine wpList_app2 rfl (.tmp 45) (.tmp 48) rfl EU8 rfl rfl (hW.own.alloc _) (m := 1) (news := [.int .u8 (z)]) rfl (by decide) (Sl.new_ _ _ _) (fun u hu => by simp only [List.mem_cons, List.not_mem_nil, or_false] at hu; subst hu; rfl) (by unfold maxLen; omega) (by omega) (by simp only [World.size_alloc]; omega) ?_; intro A3 c3 w3 own3 hg3 hv3 hb3; have hbg := (HBG.out _ hg3); have y1 := (blk_got hbg).2.1; have y2 := (blk_got hbg).2.2.2.1)
      | fail)
     obtain ⟨hWN, hCN, hRN⟩ := (hW.alloc (.cells #[.int .u8 z] 5)).step (hC.trans (Chg.of_below (since_alloc (Below.refl _ wr) (.cells #[.int .u8 z] 5))) (.inl rfl)) hrow hg3 own3 hv3 hz0;rw [HE.out] at hWN hRN;go_roundw
     case rel => exact ⟨k + 1, A3, c3, by omega, by go_num, by rw [HTP.out]; exact hWN, hCN, by rw [HTP.out]; exact hRN⟩
     case measure => simp [intOf]; omega
    ·have hg : (128 : Int) ≤ z := by omega
     have HE : Hid ((pre ++ [(z % 128 + 128).toNat]) ++ vb (z / 128).toNat = X) := hJz (by
      rw [← hpx, vb_high (u := z.toNat) (by omega), List.append_assoc];have e1 : (z % 128 + 128).toNat = z.toNat % 128 + 128 := by omega
      have e2 : (z / 128).toNat = z.toNat / 128 := by omega
      rw [e1, e2]; rfl)
     have HM := hJz (show 0 ≤ z / 128 ∧ z / 128 < 18446744073709551616 ∧ (z / 128).toNat < z.toNat by omega);have HZ2 := hJz (show 0 ≤ z % 128 + 128 by omega);have hor := or_128 hz0
     have HBG : Hid (∀ W, (wr.alloc (.cells #[.int .u8 (z % 128 + 128)] 5)).grownBy W (Value.slice A4 pre.length c4).ownBlock → W.heap[g]? = some (.cells #[.bool true, .slice A4 pre.length c4] 217 (0, 0))) := hJz fun W hg => by
      rw [hg.block g (by rw [World.size_alloc]; have := hW.lt; omega) (fun e => hW.ne e.symm)]; exact (hW.alloc (.cells #[.int .u8 (z % 128 + 128)] 5)).blk
     clear hpx
     go_wp2_with (first
      | (at_builtin; refine wpList_app2 rfl (.tmp 31) (.tmp 35) rfl EU8 rfl rfl (hW.own.alloc _) (m := 1) (news := [.int .u8 (z % 128 + 128)]) rfl (by decide) (Sl.new_ _ _ _) (fun u hu => by simp only [List.mem_cons, List.not_mem_nil, or_false] at hu; subst hu; rfl) (by unfold maxLen; omega) (by omega) (by simp only [World.size_alloc]; omega) ?_; intro A3 c3 w3 own3 hg3 hv3 hb3; have hbg := (HBG.out _ hg3); have y1 := (blk_got hbg).2.1; have y2 := (blk_got hbg).2.2.2.1)
      | fail)
     obtain ⟨hWN, hCN, hRN⟩ := (hW.alloc (.cells #[.int .u8 (z % 128 + 128)] 5)).step (hC.trans (Chg.of_below (since_alloc (Below.refl _ wr) (.cells #[.int .u8 (z % 128 + 128)] 5))) (.inl rfl)) hrow hg3 own3 hv3 HZ2.out;go_roundw
     case rel => exact ⟨z / 128, pre ++ [(z % 128 + 128).toNat], A3, c3, rfl, HM.out.1, HM.out.2.1, HE.out, hWN, hCN, hRN⟩
     case measure => exact HM.out.2.2
  ·obtain rfl : k = l.length := by omega
   rw [List.take_length] at hW hrow;go_wp2_with fail;go_ret;exact ⟨rfl, A2, c2, hW, hC, hrow⟩
end
section
def sb (s : ByteArray) : List Nat := s.data.toList.map UInt8.toNat
theorem wnew_any (w : World) : Calls Tryz.prog 138 #[] w fun e w' => e = .returned (.pointer (some ⟨w.heap.size, 0, none⟩)) ∧ Wr w' w.heap.size none 0 [] ∧ w' = w.alloc (.cells #[.bool true, .slice none 0 0] 217) := by
 have hh := heap_alloc_new w (.cells #[.bool true, .slice none 0 0] 217);go_enter Tryz.func138, Tryz.ntmps138;go_wp2_with fail;go_ret;exact ⟨rfl, ⟨hh, own_nil _ _ _⟩, rfl⟩
theorem rpints_any (A : Option Addr) (cap : Nat) (l : List Int) (w : World) (hl : l.length ≤ 1000) (h6 : ∀ x ∈ l, In64p x) (hs : Sl w A (ints .i64 l)) :
  Calls Tryz.prog 88 #[.slice A l.length cap] w fun e w' => BRowP w.heap.size w' e (packL l) ∧ Below w.heap.size w w' := by
 have H6 := hJz h6
 have HPL : Hid (∀ k, k ≤ l.length → (packL (l.take k)).length ≤ 10 * k) := hJz fun k => by
  induction k with
  | zero => intro _; simp [packL]
  | succ k ih =>
   intro hk;have hlt : k < l.length := by omega
   rw [List.take_succ_eq_append_getElem hlt, packL_append, List.length_append];have h1 := ih (by omega);have h2 := vb_len10 (zz_lt (h6 _ (List.getElem_mem hlt)));have h3 : packL [l[k]] = vb (zz l[k]) := by simp [packL, packI]
   rw [h3];omega
 clear h6;go_enter Tryz.func88, Tryz.ntmps88;go_wp2_with fail;go_loopw [3, 4] (fun ov i wr => ∃ (k : Nat) (A2 : Option Addr) (c2 : Nat), k ≤ l.length ∧ i = .int .i64 k ∧ ov = .slice A2 (packL (l.take k)).length c2 ∧ wr.ownsRow w.heap.size 5 1 (.slice A2 (packL (l.take k)).length c2) (packL (l.take k)).length (by8 (packL (l.take k))) ∧ Below w.heap.size w wr) (fun _ i _ => l.length - (intOf i).toNat)
 case atStart => exact ⟨0, none, 0, by omega, rfl, rfl, own_nil _ _ _, Below.refl _ _⟩
 case round =>
  obtain ⟨k, A2, c2, hk, rfl, rfl, own2, hB⟩ := hrel
  by_cases hlt : k < l.length
  ·have hlk : (k : Int) < (l.length : Int) := by omega
   obtain ⟨b, o, rfl, hc0⟩ := (hs.below hB).int hlt;have HT : Hid (packL (l.take (k + 1)) = packL (l.take k) ++ packI l[k]) := hJz (by rw [List.take_succ_eq_append_getElem hlt, packL_append]; simp [packL]);have hp := HPL.out k hk;have hn6 := H6.out _ (List.getElem_mem hlt);obtain ⟨n, hn⟩ : ∃ n, l[k] = n := ⟨_, rfl⟩;obtain ⟨P, hP⟩ : ∃ P, packL (l.take k) = P := ⟨_, rfl⟩;rw [hn] at hc0 HT hn6;rw [hP] at own2 HT hp ⊢;have HI := hJz (rpint_any n hn6 wr);have hil : (packI n).length ≤ 10 := vb_len10 (zz_lt hn6);have HB1 : Hid (∀ u ∈ by8 (packI n), u.oneCell' = true) := hJz (by8_one _);generalize packI n = Q at *;clear hn hP hn6;go_wp2_with fail;refine HI.out.mono ?_;rintro e w1 ⟨⟨A3, c3, rfl, own3⟩, hb⟩;have hB1 := since_step hB hb;have own2 := own_below own2 hb;have hq := Sl.of_own own3;have hsz := hB1.size;clear own3 hb hc0
   go_wp2_with (first
    | (at_builtin; refine wpList_app rfl (.tmp 11) (.tmp 16) rfl EU8 rfl rfl own2 (m := Q.length) (by rw [by8_length, Nat.mul_one]) hq HB1.out (by unfold maxLen; omega) (by omega) hsz ?_; intro A5 c5 w5 own5 hg5 hb5)
    | fail)
   go_roundw
   case rel => exact ⟨k + 1, A5, c5, by omega, by go_num, by rw [HT.out, List.length_append], by rw [HT.out, List.length_append, by8_append]; exact own5, hB1.trans hb5⟩
   case measure => simp [intOf]; omega
  ·obtain rfl : k = l.length := by omega
   rw [List.take_length] at own2 ⊢;go_wp2_with fail;go_ret;exact ⟨⟨A2, c2, rfl, own2⟩, hB⟩
end
end Go.Proofs.YtpmnjojednbnpaaGreatDoor
