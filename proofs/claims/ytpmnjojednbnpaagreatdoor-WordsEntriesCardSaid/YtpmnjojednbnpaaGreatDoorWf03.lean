import Derived.Lib.SliceRun
import Derived.Test.YtpmnjojednbnpaaGreatDoorWf02
import Derived.Laws.DeepNot64
import Derived.Laws.IdiomStrings
set_option maxHeartbeats 16000000
set_option maxRecDepth 100000
set_option linter.unusedVariables false
set_option linter.unusedSimpArgs false
namespace Go.Proofs.YtpmnjojednbnpaaGreatDoor
open Go.ChangeShapes Go.WideShapes Go.ChangeAt Go.RowKit
section
theorem own_newB {w : World} {base e size n g : Nat} {v : Value} {xs : List Value} (h : w.ownsRow base e size v n xs) (hg : w.heap.size ≤ g) : v.ownBlock ≠ some g := by
 intro h2
 rcases h.2 with ⟨rfl, _⟩ | ⟨g', cap, cur, rfl, _, hh, _⟩
 ·simp [Value.ownBlock] at h2
 ·simp only [Value.ownBlock, Option.some.injEq] at h2;subst h2;rw [Array.getElem?_eq_none hg] at hh
  cases hh
theorem clone8_any (A : Option Addr) (cap : Nat) (l : List Nat) (w : World) (hl : l.length ≤ 10000000) (hs : Sl w A (by8 l)) :
  Calls Tryz.prog 134 #[.slice A l.length cap] w fun e w' => BRowP w.heap.size w' e l ∧ Below w.heap.size w w' := by
 cases A with
 | none =>
  have hn : l = [] := by
   cases l with
   | nil => rfl
   | cons g m => obtain ⟨b, o, e, _⟩ := hs.byte (j := 0) (by simp); cases e
  subst hn;have hnil := fun w : World => Go.Lib.run_eql_slice_nil (P := Tryz.prog) w 54 5 none 0 cap 0 0 EU8.und;go_enter Tryz.func134, Tryz.ntmps134;go_wp2_with fail;go_ret;exact ⟨⟨none, 0, rfl, own_nil _ _ _⟩, Below.refl _ _⟩
 | some ad =>
  have hnil := fun w : World => Go.Lib.run_eql_slice_nil (P := Tryz.prog) w 54 5 (some ad) l.length cap 0 0 EU8.und;go_enter Tryz.func134, Tryz.ntmps134
  go_wp2_with (first
   | (at_builtin; refine wpList_app rfl (.tmp 5) (.tmp 6) rfl EU8 rfl rfl (World.ownsRow_made (w := w) #[] 0 (Nat.le_refl _) (Nat.zero_le _) rfl) (m := l.length) (by rw [by8_length, Nat.mul_one]) (hs.alloc _) (by8_one l) (by unfold maxLen; omega) (by omega) (by simp) ?_; intro A2 c2 w2 hown2 hg2 hb2; simp only [Nat.zero_add, List.nil_append] at hown2)
   | fail)
  refine bodyPost_ret (results_tmp rfl _ _ _) rfl ⟨⟨A2, c2, by simp, by simpa using hown2⟩, ?_⟩;exact Below.trans ((Below.refl _ _).alloc (Nat.le_refl _) _) hb2
theorem wdone_any (g : Nat) (A : Option Addr) (c : Nat) (bs : List Nat) (w : World) (hW : Wr w g A c bs) (hbl : bs.length ≤ 10000000) :
  Calls Tryz.prog 115 #[.pointer (some ⟨g, 0, none⟩)] w fun e w' => BRowP w.heap.size w' e bs ∧ Below w.heap.size w w' := by
 have hFT := wfit_any g true _ w hW.blk;go_enter Tryz.func115, Tryz.ntmps115;go_wp2_with fail;refine hFT.mono ?_;rintro e w1 ⟨rfl, hb⟩;have hW1 := hW.below hb;have hz := hb.size;obtain ⟨k0, k1, z1, z2, lg⟩ := blk_got hW1.blk;clear hFT;go_wp2_with fail;refine (clone8_any A c bs w1 hbl (Sl.of_own hW1.own)).mono ?_;rintro e w2 ⟨⟨A3, c3, rfl, own3⟩, hb2⟩;have hB := since_step hb hb2;go_wp2_with fail;go_ret;exact ⟨⟨A3, c3, rfl, own_base own3 hz⟩, hB⟩
end
section
theorem blk_got3 {w : World} {g : Nat} {a b c : Value} {t : Nat} (h : w.heap[g]? = some (.cells #[a, b, c] t (0, 0))) : w.cell? ⟨g, 0, none⟩ = some a ∧ w.cell? ⟨g, 1, none⟩ = some b ∧ w.cell? ⟨g, 2, none⟩ = some c ∧ w.frozen? ⟨g, 0, none⟩ = false ∧ w.frozen? ⟨g, 1, none⟩ = false ∧ w.frozen? ⟨g, 2, none⟩ = false ∧ g < w.heap.size := by
 refine ⟨by rw [cell_of_row w g 0 _ t (0, 0) h]; rfl, by rw [cell_of_row w g 1 _ t (0, 0) h]; rfl, by rw [cell_of_row w g 2 _ t (0, 0) h]; rfl, by simp [World.frozen?, h], by simp [World.frozen?, h], by simp [World.frozen?, h], ?_⟩
 rcases Nat.lt_or_ge g w.heap.size with h1 | h1
 ·exact h1
 ·rw [Array.getElem?_eq_none h1] at h; cases h
def Lies (g : Nat) (A : Option Addr) (c : Nat) (B : List Nat) : Prop := (A = none ∧ c = 0 ∧ B = []) ∨ ∃ b o, A = some ⟨b, o, none⟩ ∧ b < g
structure Rdr (w : World) (g : Nat) (A : Option Addr) (c : Nat) (B : List Nat) (er : Int) : Prop where
  blk : w.heap[g]? = some (.cells #[.bool true, .slice A B.length c, .int .i64 er] 211 (0, 0))
  sl : Sl w A (by8 B)
  cap : B.length ≤ c
  cm : c ≤ maxLen
  lies : Lies g A c B
  oct : Oct B
theorem Rdr.lt {w : World} {g : Nat} {A : Option Addr} {c : Nat} {B : List Nat} {er : Int} (h : Rdr w g A c B er) : g < w.heap.size := (blk_got3 h.blk).2.2.2.2.2.2
theorem Rdr.below {w w' : World} {g : Nat} {A : Option Addr} {c : Nat} {B : List Nat} {er : Int} (h : Rdr w g A c B er) (hb : Below w.heap.size w w') : Rdr w' g A c B er := ⟨by rw [hb.block g h.lt]; exact h.blk, h.sl.below hb, h.cap, h.cm, h.lies, h.oct⟩
theorem Rdr.put {w : World} {g : Nat} {A A' : Option Addr} {c c' : Nat} {B B' : List Nat} {er : Int} (h : Rdr w g A c B er) (hs : Sl w A' (by8 B')) (hc : B'.length ≤ c') (hm : c' ≤ maxLen) (hl : Lies g A' c' B') (ho : Oct B') :
  Rdr (w.setCell ⟨g, 1, none⟩ (.slice A' B'.length c')) g A' c' B' er := by
 refine ⟨?_, hs.far (fun b o hA => ?_) _, hc, hm, hl, ho⟩
 ·rw [setCell_eq_setRow w g 1 _ 211 (0, 0) _ h.blk];have := setRow_heap w g _ ((#[.bool true, .slice A B.length c, .int .i64 er] : Array Value).set! 1 (.slice A' B'.length c')) 211 (0, 0) h.blk;simpa using this
 ·rcases hl with ⟨h1, _⟩ | ⟨b1, o1, h1, h2⟩
  ·rw [h1] at hA; cases hA
  ·rw [h1] at hA;injection hA with hA;injection hA with hA _;subst hA;exact Nat.ne_of_lt h2
theorem Rdr.fail {w : World} {g : Nat} {A : Option Addr} {c : Nat} {B : List Nat} {er : Int} (h : Rdr w g A c B er) (e : Int) :
  Rdr ((w.setCell ⟨g, 2, none⟩ (.int .i64 e)).setCell ⟨g, 1, none⟩ (.slice none 0 0)) g none 0 [] e := by
 refine ⟨?_, Sl.nil, Nat.le_refl _, by decide, .inl ⟨rfl, rfl, rfl⟩, fun x hx => by cases hx⟩
 have h1 : (w.setCell ⟨g, 2, none⟩ (.int .i64 e)).heap[g]? = some (.cells #[.bool true, .slice A B.length c, .int .i64 e] 211 (0, 0)) := by
  rw [setCell_eq_setRow w g 2 _ 211 (0, 0) _ h.blk];have := setRow_heap w g _ ((#[.bool true, .slice A B.length c, .int .i64 er] : Array Value).set! 2 (.int .i64 e)) 211 (0, 0) h.blk;simpa using this
 rw [setCell_eq_setRow _ g 1 _ 211 (0, 0) _ h1];have := setRow_heap _ g _ ((#[.bool true, .slice A B.length c, .int .i64 e] : Array Value).set! 1 (.slice none 0 0)) 211 (0, 0) h1;simpa using this
theorem Rdr.belowW {w w' : World} {g W : Nat} {A : Option Addr} {c : Nat} {B : List Nat} {er : Int} (h : Rdr w g A c B er) (hb : Below W w w') (hg : g < W) : Rdr w' g A c B er := by
 refine ⟨by rw [hb.block g hg]; exact h.blk, ?_, h.cap, h.cm, h.lies, h.oct⟩;intro hne;obtain ⟨b, o, hA, hc⟩ := h.sl hne
 have hlt : b < g := by
  rcases h.lies with ⟨e, _⟩ | ⟨b1, o1, e, h1⟩
  ·rw [e] at hA; cases hA
  ·rw [e] at hA;injection hA with hA;injection hA with hA _;omega
 exact ⟨b, o, hA, fun j u hu => (hb.cell (p := ⟨b, o + j, none⟩) (Nat.lt_trans hlt hg)).trans (hc j u hu)⟩
theorem Lies.drop {g : Nat} {b o c n : Nat} {B : List Nat} (h : b < g) (A : Option Addr) (hA : A = some ⟨b, o, none⟩ ∨ A = some ⟨b, o + n, none⟩) : Lies g A c B := by
 rcases hA with rfl | rfl
 ·exact .inr ⟨b, o, rfl, h⟩
 ·exact .inr ⟨b, o + n, rfl, h⟩
theorem Sl.dropN {w : World} {b o : Nat} {xs : List Value} (h : Sl w (some ⟨b, o, none⟩) xs) (n : Nat) : Sl w (some ⟨b, o + n, none⟩) (xs.drop n) := by
 intro hne;have hx : xs ≠ [] := fun e => by subst e; simp at hne
 obtain ⟨b1, o1, hA, hc⟩ := h hx;injection hA with hA;injection hA with h1 h2;subst h1; subst h2;refine ⟨b, o + n, rfl, fun j u hu => ?_⟩;rw [List.getElem?_drop] at hu;have := hc (n + j) u hu;rw [show o + n + j = o + (n + j) by omega];exact this
theorem by8_drop (l : List Nat) (n : Nat) : by8 (l.drop n) = (by8 l).drop n := by simp [by8, List.map_drop]
def bs8 (l : List Nat) : ByteArray := ⟨(l.map UInt8.ofNat).toArray⟩
theorem bs8_size (l : List Nat) : (bs8 l).size = l.length := by simp [bs8, ByteArray.size]
theorem and_127 {z : Int} (h0 : 0 ≤ z) (h1 : z < 256) : bits BinOp.and IntKind.u8 z 127 = z % 128 := by
 have hn : ∀ m, m < 256 → m &&& 127 = m % 128 := by decide
 rw [u8_and _ _ (by omega) (by omega) (by omega) (by omega)];have e : (127 : Int).toNat = 127 := rfl;rw [e, hn _ (by omega)];omega
theorem i64_xor_sign {q s : Int} (h0 : 0 ≤ q) (h1 : q < 9223372036854775808) (hs : s = 0 ∨ s = 1) : bits BinOp.xor IntKind.i64 q (-s) = if s = 0 then q else -q - 1 := by
 obtain ⟨Q, rfl⟩ := Int.eq_ofNat_of_zero_le h0
 rcases hs with rfl | rfl
 ·show IntKind.i64.wrap ((BitVec.ofInt 64 (Q : Int) ^^^ BitVec.ofInt 64 0).toNat : Int) = _
  have e : BitVec.ofInt 64 0 = 0#64 := by decide
  rw [e, BitVec.xor_zero, ofInt_u64 Q (by omega)];simp [IntKind.wrap, IntKind.bits, IntKind.signed];omega
 ·have h := i64_not Q (by omega)
  have e : bits BinOp.xor IntKind.i64 (Q : Int) (-1) = bits BinOp.xor IntKind.i64 (-1) (Q : Int) := by
   show IntKind.i64.wrap ((BitVec.ofInt 64 (Q : Int) ^^^ BitVec.ofInt 64 (-1)).toNat : Int) = IntKind.i64.wrap ((BitVec.ofInt 64 (-1) ^^^ BitVec.ofInt 64 (Q : Int)).toNat : Int)
   rw [BitVec.xor_comm]
  rw [e, h, if_neg (by decide)];omega
theorem rfit_any (g : Nat) (m : Bool) (v u : Value) (w : World) (h : w.heap[g]? = some (.cells #[.bool m, v, u] 211 (0, 0))) :
  Calls Tryz.prog 135 #[.pointer (some ⟨g, 0, none⟩)] w fun e w' => e = .returned (.bool m) ∧ Below w.heap.size w w' := by
 obtain ⟨k0, k1, k2, z0, z1, z2, lg⟩ := blk_got3 h;go_enter Tryz.func135, Tryz.ntmps135;go_wp2_with fail;go_ret;exact ⟨rfl, Below.refl _ _⟩
theorem rfail_any (g : Nat) (A : Option Addr) (c : Nat) (B : List Nat) (er x : Int) (w : World) (h : Rdr w g A c B er) :
  Calls Tryz.prog 137 #[.pointer (some ⟨g, 0, none⟩), .int .i64 x] w fun e w' => e = .returned (.tuple #[]) ∧ Rdr w' g none 0 [] x ∧ Chg g none w w' := by
 obtain ⟨k0, k1, k2, z0, z1, z2, lg⟩ := blk_got3 h.blk;have hR := h.fail x;have hC : Chg g none w ((w.setCell ⟨g, 2, none⟩ (.int .i64 x)).setCell ⟨g, 1, none⟩ (.slice none 0 0)) := (Chg.set 2 _).trans (Chg.set 1 _) (.inl rfl);go_enter Tryz.func137, Tryz.ntmps137;go_wp2_with fail
 go_end0
 exact ⟨rfl, hR, hC⟩
end
section
theorem or_join {z q : Int} {i : Nat} (hz : 0 ≤ z) (hq : 0 ≤ q) (h1 : z.toNat < 2 ^ i) (h4 : z < 18446744073709551616) (h2 : q * 2 ^ i < 18446744073709551616) : bits BinOp.or IntKind.u64 z (q * 2 ^ i) = z + q * 2 ^ i := by
 obtain ⟨Z, rfl⟩ := Int.eq_ofNat_of_zero_le hz;obtain ⟨Q, rfl⟩ := Int.eq_ofNat_of_zero_le hq;have e : ((Q : Int) * 2 ^ i) = ((Q * 2 ^ i : Nat) : Int) := by push_cast; rfl
 have h3 : Q * 2 ^ i < 18446744073709551616 := by rw [e] at h2; omega
 rw [e, u64_or_nat Z (Q * 2 ^ i) (by omega) h3, Nat.or_comm, nat_join i _ _ (by simp) (by simpa using h1)]
 push_cast
 omega
theorem grp_num {z k y : Int} {x : Nat} (hk : 0 ≤ k) (hk8 : k ≤ 8) (hz0 : 0 ≤ z) (hzp : z.toNat < 2 ^ (7 * k.toNat)) (hy : y.toNat = x) (hy0 : 0 ≤ y) (hy1 : y < 256) :
  ∃ S, bits BinOp.or IntKind.u64 z (IntKind.u64.wrap (y % 128 * 2 ^ (7 * k).toNat)) = S ∧ 0 ≤ S ∧ S < 18446744073709551616 ∧ S.toNat < 2 ^ (7 * (k + 1).toNat) ∧ S.toNat = z.toNat + x % 128 * 2 ^ (7 * k.toNat) := by
 obtain ⟨K, rfl⟩ := Int.eq_ofNat_of_zero_le hk;obtain ⟨Z, rfl⟩ := Int.eq_ofNat_of_zero_le hz0;obtain ⟨Y, rfl⟩ := Int.eq_ofNat_of_zero_le hy0;have e1 : (7 * (K : Int)).toNat = 7 * K := by omega
 have e2 : ((K : Int) + 1).toNat = K + 1 := by omega
 simp only [Int.toNat_natCast] at hzp hy;subst hy;rw [e1, e2];simp only [Int.toNat_natCast]
 have hP : 2 ^ (7 * K) ≤ 72057594037927936 := by
  have : (2 : Nat) ^ (7 * K) ≤ 2 ^ 56 := Nat.pow_le_pow_right (by omega) (by omega);simpa using this
 have hP2 : 2 ^ (7 * (K + 1)) = 2 ^ (7 * K) * 128 := by rw [show 7 * (K + 1) = 7 * K + 7 by omega, Nat.pow_add]
 have hm : Y % 128 * 2 ^ (7 * K) ≤ 127 * 2 ^ (7 * K) := Nat.mul_le_mul_right _ (by omega);have e3 : ((Y : Int) % 128 * 2 ^ (7 * K)) = ((Y % 128 * 2 ^ (7 * K) : Nat) : Int) := by push_cast; rfl
 obtain ⟨M, hM⟩ : ∃ M, Y % 128 * 2 ^ (7 * K) = M := ⟨_, rfl⟩;obtain ⟨P, hPe⟩ : ∃ P, 2 ^ (7 * K) = P := ⟨_, rfl⟩;have hb : M < 18446744073709551616 := by rw [hM, hPe] at hm; rw [hPe] at hP; omega
 have hb2 : (Z : Int) < 18446744073709551616 := by rw [hPe] at hP hzp; omega
 have hw : IntKind.u64.wrap ((Y : Int) % 128 * 2 ^ (7 * K)) = (Y : Int) % 128 * 2 ^ (7 * K) := IntWalk.u64_in _ (by rw [e3, hM]; omega);rw [hw, or_join (by omega) (by omega) (by simpa using hzp) hb2 (by rw [e3, hM]; omega), e3, hM];have hzp' : Z < P := by rw [hPe] at hzp; exact hzp
 rw [hM, hPe] at hm;rw [hPe] at hP;refine ⟨_, rfl, by omega, by omega, ?_, by omega⟩;rw [hP2, hPe];omega
theorem rgroups_any (g : Nat) (A : Option Addr) (c : Nat) (B : List Nat) (er : Int) (w : World) (hR : Rdr w g A c B er) :
  Calls Tryz.prog 136 #[.pointer (some ⟨g, 0, none⟩)] w fun e w' => e = .returned (.tuple #[.int .u64 ((grp 10 0 B).2.1 : Nat), .int .i64 (grp 10 0 B).1]) ∧ Chg g none w w' ∧ ∃ A' c', Rdr w' g A' c' (grp 10 0 B).2.2 er := by
 obtain ⟨R0, hR0⟩ : ∃ R, grp 10 0 B = R := ⟨_, rfl⟩;rw [hR0];have HR0 := hJz hR0;clear hR0;go_enter Tryz.func136, Tryz.ntmps136;go_wp2_with fail;go_loopw [4, 7] (fun uv iv wr => ∃ (z k : Int) (A2 : Option Addr) (c2 : Nat) (B2 : List Nat), uv = .int .u64 z ∧ iv = .int .i64 k ∧ 0 ≤ k ∧ k ≤ 10 ∧ 0 ≤ z ∧ z.toNat < 2 ^ (7 * k.toNat) ∧ z < 18446744073709551616 ∧ grp (10 - k.toNat) z.toNat B2 = R0 ∧ Rdr wr g A2 c2 B2 er ∧ Chg g none w wr) (fun _ iv _ => 10 - (intOf iv).toNat)
 case atStart => exact ⟨0, 0, A, c, B, rfl, rfl, by decide, by decide, by decide, by decide, by decide, HR0.out, hR, Chg.refl _ _ _⟩
 case round =>
  obtain ⟨z, k, A2, c2, B2, rfl, rfl, hk0, hk1, hz0, hzp, hzl, hgr, hR2, hC2⟩ := hrel;obtain ⟨k0, k1, k2, z0, z1, z2, lg⟩ := blk_got3 hR2.blk;have hB2c := hR2.cap;have hcm := hR2.cm;unfold maxLen at hcm;have HGR := hJz hgr;have HZP := hJz hzp;clear hgr hzp
  by_cases hlt : k < 10
  ·cases B2 with
   | nil =>
    have HE : Hid (R0 = (4, 0, [])) := hJz (by
     rw [← HGR.out, show 10 - k.toNat = (9 - k.toNat) + 1 by omega, grp])
    simp only [List.length_nil] at k1;go_wp2_with fail;go_ret2;rw [HE.out];exact ⟨rfl, hC2, A2, c2, hR2⟩
   | cons x B3 =>
    have hx := hR2.oct x (by simp);obtain ⟨b, o, rfl, hc0⟩ := hR2.sl.byte (j := 0) (by simp);simp only [Nat.add_zero, List.getElem_cons_zero, List.length_cons] at hc0 k1 hB2c;obtain ⟨y, hy⟩ : ∃ y : Int, (x : Int) = y := ⟨_, rfl⟩;rw [hy] at hc0;have hy0 : 0 ≤ y := by omega
    have hy1 : y < 256 := by omega
    have HY : Hid (y.toNat = x) := hJz (by omega);obtain ⟨n, hn⟩ : ∃ n, B3.length = n := ⟨_, rfl⟩;rw [hn] at k1 hB2c;have HN := hJz hn;clear hy hx hn;have hn1 : ¬ ((n : Int) + 1 = 0) := by omega
    have hand := and_127 hy0 hy1;obtain ⟨A3, hA3⟩ : ∃ A3, (if c2 = 1 then some (⟨b, o, none⟩ : Addr) else some ⟨b, o + 1, none⟩) = A3 := ⟨_, rfl⟩
    have HRN : Hid (Rdr (wr.setCell ⟨g, 1, none⟩ (.slice A3 n (c2 - 1))) g A3 (c2 - 1) B3 er) := hJz (by
     have hb : b < g := by
      rcases hR2.lies with ⟨e, _⟩ | ⟨b1, o1, e, h⟩
      ·cases e
      ·injection e with e;injection e with e _;subst e;exact h
     have hs : Sl wr A3 (by8 B3) := by
      rw [← hA3]
      by_cases h1 : c2 = 1
      ·rw [if_pos h1];have : B3 = [] := by apply List.eq_nil_of_length_eq_zero; rw [HN.out]; omega
       subst this;exact Sl.nil
      ·rw [if_neg h1];have := hR2.sl.dropN 1;simpa [by8] using this
     have h := hR2.put (A' := A3) (c' := c2 - 1) (B' := B3) hs (by rw [HN.out]; omega) (by unfold maxLen; omega) (by rw [← hA3]; split <;> exact .inr ⟨b, _, rfl, hb⟩) (fun q hq => hR2.oct q (by simp [hq]));rw [HN.out] at h
     exact h)
    have HCN : Hid (Chg g none w (wr.setCell ⟨g, 1, none⟩ (.slice A3 n (c2 - 1)))) := hJz (hC2.trans (Chg.set 1 _) (.inl rfl));go_upto_region 9 with fail
    try rw [hA3]
    clear hA3 hC2 hR2 k0 k1 k2 z0 z1 z2 lg hc0 hcm hB2c hn1;generalize wr.setCell ⟨g, 1, none⟩ (.slice A3 n (c2 - 1)) = w5 at *
    by_cases hk9 : k = 9
    ·subst hk9
     by_cases hy2 : 1 < y
     ·have HE : Hid (R0 = (3, 0, B3)) := hJz (by
       rw [← HGR.out, show 10 - (9 : Int).toNat = 0 + 1 by decide, grp, if_pos (.inl ⟨rfl, by have := HY.out; omega⟩)])
      go_wp2_with fail;go_ret2;rw [HE.out];exact ⟨rfl, HCN.out, A3, c2 - 1, HRN.out⟩
     ·by_cases hy3 : y = 0
      ·subst hy3
       have HE : Hid (R0 = (3, 0, B3)) := hJz (by
        rw [← HGR.out, show 10 - (9 : Int).toNat = 0 + 1 by decide, grp, if_pos (.inr ⟨by decide, by have := HY.out; omega⟩)])
       go_wp2_with fail;go_ret2;rw [HE.out];exact ⟨rfl, HCN.out, A3, c2 - 1, HRN.out⟩
      ·obtain rfl : y = 1 := by omega
       go_wp2_with fail
       have HE : Hid (R0 = (0, z.toNat + 9223372036854775808, B3)) := hJz (by
        rw [← HGR.out, show 10 - (9 : Int).toNat = 0 + 1 by decide, grp, if_neg (by have := HY.out; omega), if_pos (by have := HY.out; omega)];have e : x = 1 := by have := HY.out; omega
        rw [e])
       have hj := or_join (z := z) (q := 1) (i := 63) hz0 (by decide) (by have := HZP.out; simpa using this) hzl (by decide);have e2 : (1 : Int) * 2 ^ 63 = 9223372036854775808 := by decide
       rw [e2] at hj;rw [hj];have HS : Hid (((z.toNat + 9223372036854775808 : Nat) : Int) = z + 9223372036854775808) := hJz (by omega);go_ret2;rw [HE.out];refine ⟨?_, HCN.out, A3, c2 - 1, HRN.out⟩
       show _ = Ending.returned (.tuple #[.int .u64 ((z.toNat + 9223372036854775808 : Nat) : Int), .int .i64 0])
       rw [HS.out];rfl
    ·by_cases hbad : 0 < k ∧ y = 0
     ·obtain ⟨hk2, rfl⟩ := hbad
      have HE : Hid (R0 = (3, 0, B3)) := hJz (by
       rw [← HGR.out, show 10 - k.toNat = (9 - k.toNat) + 1 by omega, grp, if_pos (.inr ⟨by omega, by have := HY.out; omega⟩)])
      go_wp2_with fail;go_ret2;rw [HE.out];exact ⟨rfl, HCN.out, A3, c2 - 1, HRN.out⟩
     ·by_cases hk0' : k = 0
      ·subst hk0';have HF : Hid (10 - ((0 : Int)).toNat = (9 - ((0 : Int)).toNat) + 1) := hJz (by omega);have HF1 : Hid (10 - ((0 : Int) + 1).toNat = 9 - ((0 : Int)).toNat) := hJz (by omega);have HF9 : Hid (9 - (9 - ((0 : Int)).toNat) = ((0 : Int)).toNat) := hJz (by omega);have HNB : Hid (¬ ((9 - ((0 : Int)).toNat = 0 ∧ 1 < x) ∨ (9 - ((0 : Int)).toNat < 9 ∧ x = 0))) := hJz (by have := HY.out; omega);obtain ⟨S, hJ, hS0, hS1, hSp, hSv⟩ := grp_num (z := z) (k := (0 : Int)) (y := y) (x := x) (by omega) (by omega) hz0 HZP.out HY.out hy0 hy1;have HSp := hJz hSp;have HSv := hJz hSv;clear hSp hSv
       have HJ : Hid (bits BinOp.or IntKind.u64 z (y % 128) = S) := hJz (by
        rw [← hJ, show (7 * (0 : Int)).toNat = 0 by decide, Int.pow_zero, Int.mul_one, IntWalk.u64_in _ (by omega)])
       clear hJ;go_upto_region 12 with fail;rw [HJ.out];clear HJ;generalize S = S' at *
       by_cases hy4 : y < 128
       ·have HE : Hid (R0 = (0, S'.toNat, B3)) := hJz (by
         rw [← HGR.out, HF.out, grp, if_neg HNB.out, if_pos (by have := HY.out; omega), HSv.out];have e : x % 128 = x := by have := HY.out; omega
         rw [e, HF9.out])
        have HS : Hid (((S'.toNat : Nat) : Int) = S') := hJz (by omega);go_wp2_with fail;go_ret2;rw [HE.out];refine ⟨?_, HCN.out, A3, c2 - 1, HRN.out⟩
        show _ = Ending.returned (.tuple #[.int .u64 ((S'.toNat : Nat) : Int), .int .i64 0])
        rw [HS.out];rfl
       ·have HE : Hid (grp (10 - ((0 : Int) + 1).toNat) S'.toNat B3 = R0) := hJz (by
         rw [← HGR.out, HF.out, grp, if_neg HNB.out, if_neg (by have := HY.out; omega), HSv.out, HF9.out, HF1.out])
        go_wp2_with fail;go_roundw
        case rel => exact ⟨S', (0 : Int) + 1, A3, c2 - 1, B3, rfl, rfl, by omega, by omega, hS0, HSp.out, hS1, HE.out, HRN.out, HCN.out⟩
        case measure => simp [intOf] <;> omega
      ·have hk2 : 0 < k := by omega
       have hy0' : ¬ y = 0 := fun e => hbad ⟨hk2, e⟩;have HF : Hid (10 - (k).toNat = (9 - (k).toNat) + 1) := hJz (by omega);have HF1 : Hid (10 - (k + 1).toNat = 9 - (k).toNat) := hJz (by omega);have HF9 : Hid (9 - (9 - (k).toNat) = (k).toNat) := hJz (by omega);have HNB : Hid (¬ ((9 - (k).toNat = 0 ∧ 1 < x) ∨ (9 - (k).toNat < 9 ∧ x = 0))) := hJz (by have := HY.out; omega);obtain ⟨S, hJ, hS0, hS1, hSp, hSv⟩ := grp_num (z := z) (k := k) (y := y) (x := x) (by omega) (by omega) hz0 HZP.out HY.out hy0 hy1;have HSp := hJz hSp;have HSv := hJz hSv;clear hSp hSv;have HJ := hJz hJ;clear hJ;go_upto_region 12 with fail;rw [HJ.out];clear HJ;generalize S = S' at *
       by_cases hy4 : y < 128
       ·have HE : Hid (R0 = (0, S'.toNat, B3)) := hJz (by
         rw [← HGR.out, HF.out, grp, if_neg HNB.out, if_pos (by have := HY.out; omega), HSv.out];have e : x % 128 = x := by have := HY.out; omega
         rw [e, HF9.out])
        have HS : Hid (((S'.toNat : Nat) : Int) = S') := hJz (by omega);go_wp2_with fail;go_ret2;rw [HE.out];refine ⟨?_, HCN.out, A3, c2 - 1, HRN.out⟩
        show _ = Ending.returned (.tuple #[.int .u64 ((S'.toNat : Nat) : Int), .int .i64 0])
        rw [HS.out];rfl
       ·have HE : Hid (grp (10 - (k + 1).toNat) S'.toNat B3 = R0) := hJz (by
         rw [← HGR.out, HF.out, grp, if_neg HNB.out, if_neg (by have := HY.out; omega), HSv.out, HF9.out, HF1.out])
        go_wp2_with fail;go_roundw
        case rel => exact ⟨S', k + 1, A3, c2 - 1, B3, rfl, rfl, by omega, by omega, hS0, HSp.out, hS1, HE.out, HRN.out, HCN.out⟩
        case measure => simp [intOf] <;> omega
  ·obtain rfl : k = 10 := by omega
   have HE : Hid (R0 = (0, z.toNat, B2)) := hJz (by
    rw [← HGR.out]
    rfl)
   have HS : Hid (((z.toNat : Nat) : Int) = z) := hJz (by omega);go_wp2_with fail;go_ret2;rw [HE.out];refine ⟨?_, hC2, A2, c2, hR2⟩
   show _ = Ending.returned (.tuple #[.int .u64 ((z.toNat : Nat) : Int), .int .i64 0])
   rw [HS.out];rfl
end
end Go.Proofs.YtpmnjojednbnpaaGreatDoor
