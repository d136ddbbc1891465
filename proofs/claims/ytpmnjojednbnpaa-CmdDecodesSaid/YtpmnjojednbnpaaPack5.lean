/-
  Layer 4, fifth part: a reader in memory; fit, fail, groups (laid by gen_pack5.py).
-/
import Derived.Test.YtpmnjojednbnpaaPack4
import Derived.Laws.DeepNot64
import Derived.Laws.IdiomStrings
namespace Go.Proofs.Ytpmnjojednbnpaa
open Go.ChangeShapes Go.WideShapes Go.ChangeAt Go.RowKit
set_option linter.unusedVariables false
set_option linter.unusedSimpArgs false

theorem blk_got3 {w : World} {g : Nat} {a b c : Value} {t : Nat} (h : w.heap[g]? = some (.cells #[a, b, c] t (0, 0))) : w.cell? ⟨g, 0, none⟩ = some a ∧ w.cell? ⟨g, 1, none⟩ = some b ∧ w.cell? ⟨g, 2, none⟩ = some c ∧ w.frozen? ⟨g, 0, none⟩ = false ∧ w.frozen? ⟨g, 1, none⟩ = false ∧ w.frozen? ⟨g, 2, none⟩ = false ∧ g < w.heap.size := by
  refine ⟨by rw [cell_of_row w g 0 _ t (0, 0) h]; rfl, by rw [cell_of_row w g 1 _ t (0, 0) h]; rfl, by rw [cell_of_row w g 2 _ t (0, 0) h]; rfl, by simp [World.frozen?, h], by simp [World.frozen?, h], by simp [World.frozen?, h], ?_⟩
  rcases Nat.lt_or_ge g w.heap.size with h1 | h1
  · exact h1
  · rw [Array.getElem?_eq_none h1] at h; cases h
/-- where a reader's bytes lie -/
def Lies (g : Nat) (A : Option Addr) (c : Nat) (B : List Nat) : Prop := (A = none ∧ c = 0 ∧ B = []) ∨ ∃ b o, A = some ⟨b, o, none⟩ ∧ b < g
structure Rdr (w : World) (g : Nat) (A : Option Addr) (c : Nat) (B : List Nat) (er : Int) : Prop where
  blk : w.heap[g]? = some (.cells #[.bool true, .slice A B.length c, .int .i64 er] 129 (0, 0))
  sl : Sl w A (by8 B)
  cap : B.length ≤ c
  cm : c ≤ maxLen
  lies : Lies g A c B
  oct : Oct B
theorem Rdr.lt {w : World} {g : Nat} {A : Option Addr} {c : Nat} {B : List Nat} {er : Int} (h : Rdr w g A c B er) : g < w.heap.size := (blk_got3 h.blk).2.2.2.2.2.2
theorem Rdr.below {w w' : World} {g : Nat} {A : Option Addr} {c : Nat} {B : List Nat} {er : Int} (h : Rdr w g A c B er) (hb : Below w.heap.size w w') : Rdr w' g A c B er := ⟨by rw [hb.block g h.lt]; exact h.blk, h.sl.below hb, h.cap, h.cm, h.lies, h.oct⟩
theorem Rdr.put {w : World} {g : Nat} {A A' : Option Addr} {c c' : Nat} {B B' : List Nat} {er : Int} (h : Rdr w g A c B er) (hs : Sl w A' (by8 B')) (hc : B'.length ≤ c') (hm : c' ≤ maxLen) (hl : Lies g A' c' B') (ho : Oct B') :
    Rdr (w.setCell ⟨g, 1, none⟩ (.slice A' B'.length c')) g A' c' B' er := by
  refine ⟨?_, hs.far (fun b o hA => ?_) _, hc, hm, hl, ho⟩
  · rw [setCell_eq_setRow w g 1 _ 129 (0, 0) _ h.blk]
    have := setRow_heap w g _ ((#[.bool true, .slice A B.length c, .int .i64 er] : Array Value).set! 1 (.slice A' B'.length c')) 129 (0, 0) h.blk
    simpa using this
  · rcases hl with ⟨h1, _⟩ | ⟨b1, o1, h1, h2⟩
    · rw [h1] at hA; cases hA
    · rw [h1] at hA
      injection hA with hA
      injection hA with hA _
      subst hA
      exact Nat.ne_of_lt h2
theorem Rdr.fail {w : World} {g : Nat} {A : Option Addr} {c : Nat} {B : List Nat} {er : Int} (h : Rdr w g A c B er) (e : Int) :
    Rdr ((w.setCell ⟨g, 2, none⟩ (.int .i64 e)).setCell ⟨g, 1, none⟩ (.slice none 0 0)) g none 0 [] e := by
  refine ⟨?_, Sl.nil, Nat.le_refl _, by decide, .inl ⟨rfl, rfl, rfl⟩, fun x hx => by cases hx⟩
  have h1 : (w.setCell ⟨g, 2, none⟩ (.int .i64 e)).heap[g]? = some (.cells #[.bool true, .slice A B.length c, .int .i64 e] 129 (0, 0)) := by
    rw [setCell_eq_setRow w g 2 _ 129 (0, 0) _ h.blk]
    have := setRow_heap w g _ ((#[.bool true, .slice A B.length c, .int .i64 er] : Array Value).set! 2 (.int .i64 e)) 129 (0, 0) h.blk
    simpa using this
  rw [setCell_eq_setRow _ g 1 _ 129 (0, 0) _ h1]
  have := setRow_heap _ g _ ((#[.bool true, .slice A B.length c, .int .i64 e] : Array Value).set! 1 (.slice none 0 0)) 129 (0, 0) h1
  simpa using this
theorem Rdr.belowW {w w' : World} {g W : Nat} {A : Option Addr} {c : Nat} {B : List Nat} {er : Int} (h : Rdr w g A c B er) (hb : Below W w w') (hg : g < W) : Rdr w' g A c B er := by
  refine ⟨by rw [hb.block g hg]; exact h.blk, ?_, h.cap, h.cm, h.lies, h.oct⟩
  intro hne
  obtain ⟨b, o, hA, hc⟩ := h.sl hne
  have hlt : b < g := by
    rcases h.lies with ⟨e, _⟩ | ⟨b1, o1, e, h1⟩
    · rw [e] at hA; cases hA
    · rw [e] at hA
      injection hA with hA
      injection hA with hA _
      omega
  exact ⟨b, o, hA, fun j u hu => (hb.cell (p := ⟨b, o + j, none⟩) (Nat.lt_trans hlt hg)).trans (hc j u hu)⟩
theorem Lies.drop {g : Nat} {b o c n : Nat} {B : List Nat} (h : b < g) (A : Option Addr) (hA : A = some ⟨b, o, none⟩ ∨ A = some ⟨b, o + n, none⟩) : Lies g A c B := by
  rcases hA with rfl | rfl
  · exact .inr ⟨b, o, rfl, h⟩
  · exact .inr ⟨b, o + n, rfl, h⟩
theorem Sl.dropN {w : World} {b o : Nat} {xs : List Value} (h : Sl w (some ⟨b, o, none⟩) xs) (n : Nat) : Sl w (some ⟨b, o + n, none⟩) (xs.drop n) := by
  intro hne
  have hx : xs ≠ [] := fun e => by subst e; simp at hne
  obtain ⟨b1, o1, hA, hc⟩ := h hx
  injection hA with hA
  injection hA with h1 h2
  subst h1; subst h2
  refine ⟨b, o + n, rfl, fun j u hu => ?_⟩
  rw [List.getElem?_drop] at hu
  have := hc (n + j) u hu
  rw [show o + n + j = o + (n + j) by omega]
  exact this
theorem by8_drop (l : List Nat) (n : Nat) : by8 (l.drop n) = (by8 l).drop n := by simp [by8, List.map_drop]
/-- a text of bytes -/
def bs8 (l : List Nat) : ByteArray := ⟨(l.map UInt8.ofNat).toArray⟩
theorem bs8_size (l : List Nat) : (bs8 l).size = l.length := by simp [bs8, ByteArray.size]
theorem sb_bs8 {l : List Nat} (h : Oct l) : sb (bs8 l) = l := by
  unfold sb bs8
  simp only [List.map_map]
  have e : List.map (UInt8.toNat ∘ UInt8.ofNat) l = List.map id l := List.map_congr_left fun x hx => by
    have := h x hx
    simp [Nat.mod_eq_of_lt this]
  simpa using e
theorem bs8_sb (s : ByteArray) : bs8 (sb s) = s := by
  have : (List.map UInt8.ofNat (sb s)).toArray = s.data := by
    unfold sb
    rw [List.map_map]
    have e : (UInt8.ofNat ∘ UInt8.toNat) = id := by funext b; simp
    rw [e, List.map_id]
  unfold bs8
  rw [this]
theorem conv_take {w : World} {b o n cap : Nat} {B : List Nat} (hs : Sl w (some ⟨b, o, none⟩) (by8 B)) (hn : n ≤ B.length) (ho : Oct B) :
    (convert 28 9 (.slice (some ⟨b, o, none⟩) n cap)).run Try.prog w = .ok (.string (bs8 (B.take n))) w := by
  have h := run_convert_bytes_back (P := Try.prog) w 28 9 5 ⟨b, o, none⟩ cap ((B.take n).map UInt8.ofNat) EU8.und (by kernel_rfl) (by kernel_rfl) (fun j hj => by
    have hj2 : j < n := by simp at hj; omega
    obtain ⟨b1, o1, e1, hc⟩ := hs.byte (j := j) (by omega)
    injection e1 with e1
    injection e1 with h1 h2
    subst h1; subst h2
    have hlt := ho _ (List.getElem_mem (l := B) (n := j) (by omega))
    have e2 : ((B.take n).map UInt8.ofNat)[j].toNat = B[j] := by simp [Nat.mod_eq_of_lt hlt]
    rw [e2]
    have e3 : (⟨b, o, none⟩ : Addr).add j = ⟨b, o + j, none⟩ := by
      unfold Addr.add
      by_cases hj0 : j = 0
      · subst hj0; simp
      · rw [if_neg hj0]
    rw [e3]
    exact hc)
  have e : ((B.take n).map UInt8.ofNat).length = n := by simp; omega
  rw [e] at h
  exact h
theorem conv_none {w : World} {cap : Nat} : (convert 28 9 (.slice none 0 cap)).run Try.prog w = .ok (.string (bs8 [])) w := by
  rw [run_convert_bytes_string w 28 9 5 none 0 cap EU8.und (by kernel_rfl) (by kernel_rfl)]
  rfl
set_option maxRecDepth 100000 in
theorem and_127 {z : Int} (h0 : 0 ≤ z) (h1 : z < 256) : bits BinOp.and IntKind.u8 z 127 = z % 128 := by
  have hn : ∀ m, m < 256 → m &&& 127 = m % 128 := by decide
  rw [u8_and _ _ (by omega) (by omega) (by omega) (by omega)]
  have e : (127 : Int).toNat = 127 := rfl
  rw [e, hn _ (by omega)]
  omega
theorem i64_xor_sign {q s : Int} (h0 : 0 ≤ q) (h1 : q < 9223372036854775808) (hs : s = 0 ∨ s = 1) : bits BinOp.xor IntKind.i64 q (-s) = if s = 0 then q else -q - 1 := by
  obtain ⟨Q, rfl⟩ := Int.eq_ofNat_of_zero_le h0
  rcases hs with rfl | rfl
  · show IntKind.i64.wrap ((BitVec.ofInt 64 (Q : Int) ^^^ BitVec.ofInt 64 0).toNat : Int) = _
    have e : BitVec.ofInt 64 0 = 0#64 := by decide
    rw [e, BitVec.xor_zero, ofInt_u64 Q (by omega)]
    simp [IntKind.wrap, IntKind.bits, IntKind.signed]
    omega
  · have h := i64_not Q (by omega)
    have e : bits BinOp.xor IntKind.i64 (Q : Int) (-1) = bits BinOp.xor IntKind.i64 (-1) (Q : Int) := by
      show IntKind.i64.wrap ((BitVec.ofInt 64 (Q : Int) ^^^ BitVec.ofInt 64 (-1)).toNat : Int) = IntKind.i64.wrap ((BitVec.ofInt 64 (-1) ^^^ BitVec.ofInt 64 (Q : Int)).toNat : Int)
      rw [BitVec.xor_comm]
    rw [e, h, if_neg (by decide)]
    omega
set_option maxHeartbeats 1000000 in
theorem rfit_any (g : Nat) (m : Bool) (v u : Value) (w : World) (h : w.heap[g]? = some (.cells #[.bool m, v, u] 129 (0, 0))) :
    Calls Try.prog 76 #[.pointer (some ⟨g, 0, none⟩)] w fun e w' => e = .returned (.bool m) ∧ Below w.heap.size w w' := by
  obtain ⟨k0, k1, k2, z0, z1, z2, lg⟩ := blk_got3 h
  go_enter Try.func76, Try.ntmps76
  go_wp2_with fail
  go_ret
  exact ⟨rfl, Below.refl _ _⟩
set_option maxHeartbeats 1000000 in
theorem rfit_nil (w : World) :
    Calls Try.prog 76 #[.pointer none] w fun e w' => e = .returned (.bool false) ∧ Below w.heap.size w w' := by
  go_enter Try.func76, Try.ntmps76
  go_wp2_with fail
  go_ret
  exact ⟨rfl, Below.refl _ _⟩
set_option maxHeartbeats 1000000 in
theorem rfail_any (g : Nat) (A : Option Addr) (c : Nat) (B : List Nat) (er x : Int) (w : World) (h : Rdr w g A c B er) :
    Calls Try.prog 78 #[.pointer (some ⟨g, 0, none⟩), .int .i64 x] w fun e w' => e = .returned (.tuple #[]) ∧ Rdr w' g none 0 [] x ∧ Chg g none w w' := by
  obtain ⟨k0, k1, k2, z0, z1, z2, lg⟩ := blk_got3 h.blk
  have hR := h.fail x
  have hC : Chg g none w ((w.setCell ⟨g, 2, none⟩ (.int .i64 x)).setCell ⟨g, 1, none⟩ (.slice none 0 0)) := (Chg.set 2 _).trans (Chg.set 1 _) (.inl rfl)
  go_enter Try.func78, Try.ntmps78
  go_wp2_with fail
  go_end0
  exact ⟨rfl, hR, hC⟩
end Go.Proofs.Ytpmnjojednbnpaa
