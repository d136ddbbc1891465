import Derived.Deep.CutBlock
import Derived.Deep.CutRange
import Derived.Deep.DeepCutAuto
import Derived.Test.YtlbccpiadmcpjaaCv11
import Derived.Lib.ItoaNum
import Derived.Test.YtlbccpiadmcpjaaCv06
section
namespace Go.Proofs.Ytlbccpiadmcpjaa
open Go.ChangeShapes Go.WideShapes Go.ChangeAt Go.RowKit
set_option linter.unusedVariables false
set_option linter.unusedSimpArgs false
theorem bval_dropkR (l : List Nat) (j : Nat) (h : j < l.length) : bval (l.drop j) = l[j] + 2 * bval (l.drop (j + 1)) := by
  rw [List.drop_eq_getElem_cons h]; rfl
theorem BigAt.l64 {w : World} {s : Bool} {A : Option Addr} {n c : Nat} {z : Int} (h : BigAt w s A n c z) (hz : In64 z) : n ≤ 64 := (h.len (k := 64)).2 (by unfold In64 at hz; simp; omega)
set_option maxRecDepth 100000 in
set_option maxHeartbeats 4000000 in
theorem rint_any (x : Int) (hin : In64 x) (s : Bool) (A : Option Addr) (n c : Nat) (w : World) (hx : BigAt w s A n c x) :
    Calls Try.prog 33 #[.agg #[.bool s, .slice A n c]] w fun e w' => e = .returned (.int .i64 x) ∧ Below w.heap.size w w' := by
  have la := hx.l64 hin
  obtain ⟨a, h1, h2, h3, h4, h5, h6, h7⟩ := hx.ex
  subst h1
  clear hx h6
  have P1 := BB.new w s A a.length c 69
  have hB0 := since_alloc (Below.refl _ w) (.cells #[.bool s, .slice A a.length c] 69)
  have S1 := h4.below hB0
  have H7 := Lib.hid h7
  have HI := Lib.hid hin
  clear h7 hin h4
  go_enter Try.func33, Try.ntmps33
  go_upto_region 1 with fail
  generalize w.alloc (.cells #[.bool s, .slice A a.length c] 69) = W0 at *
  obtain ⟨p0, p1, p2, p3, p4⟩ := _root_.id P1
  go_wp2_with fail
  go_loopw [3, 4] (fun vn vi wr => ∃ (k : Nat) (v : Int), vi = .int .i64 k ∧ vn = .int .i64 v ∧ k ≤ a.length ∧ v = (if s = true then -(bval (a.drop k) : Int) else (bval (a.drop k) : Int)) ∧ Below W0.heap.size W0 wr) (fun _ i _ => (intOf i).toNat)
  case atStart => exact ⟨a.length, 0, rfl, rfl, by omega, by simp [bval], Below.refl _ _⟩
  case round =>
    obtain ⟨k, v, rfl, rfl, hk, hv, hB⟩ := hrel
    obtain ⟨q0, q1, q2, q3, q4⟩ := P1.below hB
    clear p0 p1 p2 p3 p4
    by_cases hk0 : 0 < k
    · obtain ⟨j, hj⟩ : ∃ j, k = j + 1 := ⟨k - 1, by omega⟩
      have hlt : j < a.length := by omega
      obtain ⟨bb, o, rfl, hz⟩ := (S1.below hB).byte hlt
      have hbr := World.block_lt_of_cell? _ _ hz
      have hbit := h5.1.at_ hlt
      have hdr : bval (a.drop j) = a[j] + 2 * bval (a.drop k) := by rw [bval_dropkR a j hlt, ← hj]
      have hle : bval (a.drop j) ≤ bval a := by
        have h8 := bval_drop a j (by omega)
        have h9 : 1 * bval (a.drop j) ≤ 2 ^ j * bval (a.drop j) := Nat.mul_le_mul_right _ (Nat.two_pow_pos j)
        omega
      have hin := HI.out
      have h7 := H7.out
      unfold In64 at hin
      have HJ := Lib.hid hj
      have HDR := Lib.hid hdr
      have f1 : IntKind.i64.wrap ((k : Int) - 1) = (j : Int) := by rw [IntKind.wrap_i64]; omega
      have d1 : decide (0 < (k : Int)) = true := decide_eq_true (by omega)
      have d1' : decide (0 < k) = true := decide_eq_true hk0
      generalize hdj : bval (a.drop j) = dj at *
      generalize hdk : bval (a.drop k) = dk at *
      generalize a[j] = bt at *
      have f2 : IntKind.i64.wrap (bt : Int) = (bt : Int) := by rw [IntKind.wrap_i64]; omega
      cases s with
      | false =>
        simp only [Bool.false_eq_true, if_false] at hv h7
        have f3 : IntKind.i64.wrap (2 * v) = 2 * v := by rw [IntKind.wrap_i64]; omega
        have f4 : IntKind.i64.wrap (2 * v + (bt : Int)) = (dj : Int) := by rw [IntKind.wrap_i64]; omega
        have HDJ := Lib.hid hdj
        clear hdr hle hin h7 hdj hdk hv hj
        go_wp2
        go_roundw
        case rel => exact ⟨j, (dj : Int), rfl, rfl, by omega, by simp [HDJ.out], hB⟩
        case measure => have := HJ.out; simp [intOf]; omega
      | true =>
        simp only [if_true] at hv h7
        have f3 : IntKind.i64.wrap (2 * v) = 2 * v := by rw [IntKind.wrap_i64]; omega
        have f4 : IntKind.i64.wrap (2 * v - (bt : Int)) = -(dj : Int) := by rw [IntKind.wrap_i64]; omega
        have HDJ := Lib.hid hdj
        clear hdr hle hin h7 hdj hdk hv hj
        go_wp2
        go_roundw
        case rel => exact ⟨j, -(dj : Int), rfl, rfl, by omega, by simp [HDJ.out], hB⟩
        case measure => have := HJ.out; simp [intOf]; omega
    · obtain rfl : k = 0 := by omega
      rw [List.drop_zero] at hv
      have hvx : v = x := by rw [hv, H7.out]
      subst hvx
      go_wp2
      go_ret
      exact ⟨rfl, since_step hB0 hB⟩
theorem BB.new1 (w : World) (o : Obj) (s : Bool) (A : Option Addr) (n c : Nat) (t : TypeId) : BB ((w.alloc o).alloc (.cells #[.bool s, .slice A n c] t)) (w.heap.size + 1) s A n c := by
  have := BB.new (w.alloc o) s A n c t
  rwa [World.size_alloc] at this
end Go.Proofs.Ytlbccpiadmcpjaa
end
section
namespace Go.Proofs.Ytlbccpiadmcpjaa
open Go.ChangeShapes Go.WideShapes Go.ChangeAt Go.RowKit
set_option linter.unusedVariables false
set_option linter.unusedSimpArgs false

theorem BigAt.l128 {w : World} {s : Bool} {A : Option Addr} {n c : Nat} {z : Int} (h : BigAt w s A n c z) (hz : In128 z) : n ≤ 128 := h.len.2 (by
  rw [show (2 : Nat) ^ 128 = 340282366920938463463374607431768211456 from by decide]
  unfold In128 at hz
  omega)
structure BX (B : Nat) (w : World) (g : Nat) (s : Bool) (A : Option Addr) (n c : Nat) (z : Int) : Prop where
  bb : BB w g s A n c
  at_ : BigAt w s A n c z
  fr : Fr B A n
  hg : g < B
section
variable {B : Nat} {w w' : World} {g : Nat} {s : Bool} {A : Option Addr} {n c : Nat} {z : Int}
theorem BX.below (h : BX B w g s A n c z) (hb : Below w.heap.size w w') : BX B w' g s A n c z := ⟨h.bb.below hb, h.at_.below hb, h.fr, h.hg⟩
theorem BX.alloc (h : BX B w g s A n c z) (o : Obj) : BX B (w.alloc o) g s A n c z := h.below ((Below.refl _ _).alloc (Nat.le_refl _) o)
theorem BX.drew (h : BX B w g s A n c z) : BX B w.drew g s A n c z := h.below ⟨rfl, rfl, rfl, Nat.le_refl _, fun _ _ => rfl⟩
theorem BX.set (h : BX B w g s A n c z) {p : Addr} (hp : p.block < B) (hne : p.block ≠ g) (v : Value) : BX B (w.setCell p v) g s A n c z :=
  ⟨h.bb.far hne v, h.at_.far (fun b o hA hn => by have := h.fr b o hA hn; omega) v, h.fr, h.hg⟩
theorem BX.put (h : BX B w g s A n c z) {s' : Bool} {A' : Option Addr} {n' c' : Nat} {z' : Int} (hz : BigAt w s' A' n' c' z') (hf : Fr B A' n') :
    BX B ((w.setCell ⟨g, 0, none⟩ (.bool s')).setCell ⟨g, 1, none⟩ (.slice A' n' c')) g s' A' n' c' z' := by
  have hg := h.hg
  refine ⟨h.bb.set2 s' A' n' c', ?_, hf, hg⟩
  refine BigAt.far (BigAt.far hz ?_ _) ?_ _
  · intro b o hA hn
    have := hf b o hA hn
    show b ≠ g
    omega
  · intro b o hA hn
    have := hf b o hA hn
    show b ≠ g
    omega
theorem BX.pos (h : BX B w g s A n c z) : BX B (w.setCell ⟨g, 0, none⟩ (.bool false)) g false A n c (z.natAbs : Int) := by
  have hg := h.hg
  refine ⟨?_, ?_, h.fr, hg⟩
  · obtain ⟨h0, h1, h2, f1, f2⟩ := h.bb
    refine ⟨by simpa using h0, ?_, ?_, by simpa using f1, by simpa using f2⟩ <;> simp [cell_set, h1, h2]
  · refine BigAt.far h.at_.abs ?_ _
    intro b o hA hn
    have := h.fr b o hA hn
    show b ≠ g
    omega
theorem BX.new (hB : w.heap.size < B) (t : TypeId) : BX B (w.alloc (.cells #[.bool false, .slice none 0 0] t)) w.heap.size false none 0 0 0 :=
  ⟨BB.new w false none 0 0 t, BigAt.zero _, (fun b o h => by cases h), hB⟩
end
end Go.Proofs.Ytlbccpiadmcpjaa
end
section
namespace Go.Proofs.Ytlbccpiadmcpjaa
open Go.ChangeShapes Go.WideShapes Go.ChangeAt Go.RowKit
set_option linter.unusedVariables false
set_option linter.unusedSimpArgs false

structure Dg (Y A B u d : Nat) : Prop where
  hy : Y = A * 4294967296 + B
  hb : B < 4294967296
  ha : 2147483648 ≤ A
  ha2 : A < 4294967296
  hu : u < Y
  hd : d < 4294967296
theorem lin_lt (qa qb r d M : Nat) (hc : r * M + d < qb) : (qa + r) * M + d < qa * M + qb := by rw [Nat.add_mul]; omega
theorem lin_le (qa qb r d M : Nat) (hc : qb ≤ r * M + d) : qa * M + qb ≤ (qa + r) * M + d := by rw [Nat.add_mul]; omega
theorem lin_end (M q1 Y u2 d0 q0 r : Nat) (e0 : u2 * M + d0 = q0 * Y + r) : (q1 * Y + u2) * M + d0 = (q1 * M + q0) * Y + r := by
  rw [Nat.add_mul, Nat.add_mul, Nat.mul_right_comm q1 M Y]
  generalize q1 * Y * M = a at *
  omega
section digit
variable {Y A B u d : Nat}
def dgQ (Y u d : Nat) : Nat := (u * 4294967296 + d) / Y
theorem Dg.pos (h : Dg Y A B u d) : 0 < Y := by have := h.hu; omega
theorem Dg.q_lt (h : Dg Y A B u d) : dgQ Y u d < 4294967296 := by
  unfold dgQ
  rw [Nat.div_lt_iff_lt_mul h.pos]
  have := h.hu; have := h.hd
  omega
theorem Dg.le (h : Dg Y A B u d) : dgQ Y u d ≤ u / A := by
  have hA : 0 < A := by have := h.ha; omega
  rw [Nat.le_div_iff_mul_le hA]
  have h1 : dgQ Y u d * Y ≤ u * 4294967296 + d := Nat.div_mul_le_self _ _
  have h2 : dgQ Y u d * (A * 4294967296) ≤ dgQ Y u d * Y := Nat.mul_le_mul_left _ (by have := h.hy; omega)
  have h3 : dgQ Y u d * (A * 4294967296) = dgQ Y u d * A * 4294967296 := by rw [Nat.mul_assoc]
  have := h.hd
  omega
theorem Dg.q2 (h : Dg Y A B u d) : u / A ≤ 4294967297 := by
  have hA : 0 < A := by have := h.ha; omega
  have : u / A < 4294967298 := by
    rw [Nat.div_lt_iff_lt_mul hA]
    have := h.hu; have := h.hy; have := h.hb; have := h.ha
    omega
  omega
theorem Dg.more (h : Dg Y A B u d) {q r : Nat} (e : q * A + r = u) (hc : r * 4294967296 + d < q * B) : dgQ Y u d + 1 ≤ q := by
  have : dgQ Y u d < q := by
    unfold dgQ
    have e2 : q * Y = q * A * 4294967296 + q * B := by rw [h.hy, Nat.mul_add q (A * 4294967296) B, Nat.mul_assoc q A 4294967296]
    rw [Nat.div_lt_iff_lt_mul h.pos, e2]
    subst e
    exact lin_lt _ _ _ _ _ hc
  omega
theorem Dg.done (h : Dg Y A B u d) {q r : Nat} (e : q * A + r = u) (hq : dgQ Y u d ≤ q) (hc : q * B ≤ r * 4294967296 + d) : q = dgQ Y u d := by
  have : q ≤ dgQ Y u d := by
    clear hq
    unfold dgQ
    have e2 : q * Y = q * A * 4294967296 + q * B := by rw [h.hy, Nat.mul_add q (A * 4294967296) B, Nat.mul_assoc q A 4294967296]
    rw [Nat.le_div_iff_mul_le h.pos, e2]
    subst e
    exact lin_le _ _ _ _ _ hc
  omega
theorem Dg.broke (h : Dg Y A B u d) {q r : Nat} (e : q * A + r = u) (hq : dgQ Y u d ≤ q) (h2 : q ≤ 4294967296) (hr : 4294967296 ≤ r) : q = dgQ Y u d := by
  refine h.done e hq ?_
  have : q * B ≤ 4294967296 * 4294967295 := Nat.mul_le_mul h2 (by have := h.hb; omega)
  omega
theorem Dg.rest (h : Dg Y A B u d) : dgQ Y u d * Y ≤ u * 4294967296 + d ∧ u * 4294967296 + d - dgQ Y u d * Y < Y := by
  have h1 : dgQ Y u d * Y ≤ u * 4294967296 + d := Nat.div_mul_le_self _ _
  refine ⟨h1, ?_⟩
  have h2 : Y * dgQ Y u d + (u * 4294967296 + d) % Y = u * 4294967296 + d := Nat.div_add_mod _ _
  have h3 : (u * 4294967296 + d) % Y < Y := Nat.mod_lt _ h.pos
  rw [Nat.mul_comm] at h2
  omega
end digit
theorem wrap_quo (u a q : Nat) (hq : q = u / a) (h : q ≤ 4294967297) : IntKind.u64.wrap ((u : Int) / (a : Int)) = (q : Int) := by
  rw [show (u : Int) / (a : Int) = ((u / a : Nat) : Int) from by simp, ← hq, IntKind.wrap_u64]
  omega
theorem wrap_rem (u a q r : Nat) (h : q * a + r = u) (hu : u < 18446744073709551616) : IntKind.u64.wrap ((u : Int) - IntKind.u64.wrap ((q : Int) * (a : Int))) = (r : Int) := by
  rw [show (q : Int) * (a : Int) = ((q * a : Nat) : Int) from by simp, IntKind.wrap_u64, IntKind.wrap_u64]
  generalize q * a = m at *
  omega
theorem wrap_mul (q b m : Nat) (hm : m = q * b) (h : m < 18446744073709551616) : IntKind.u64.wrap ((q : Int) * (b : Int)) = (m : Int) := by
  rw [show (q : Int) * (b : Int) = ((q * b : Nat) : Int) from by simp, ← hm, IntKind.wrap_u64]
  omega
theorem div_start (N hi lo y : Nat) (hNN : N = hi * 18446744073709551616 + lo) (h1 : hi < y) (h2 : y < 18446744073709551616) (h3 : lo < 18446744073709551616) :
    ∃ s Y A B U T T1 T0 : Nat, (64 - (Lib.bitLen (y : Int).toNat : Int)) = (s : Int) ∧ s ≤ 63 ∧ IntKind.u64.wrap ((y : Int) * 2 ^ s) = (Y : Int) ∧ (Y : Int) / 4294967296 = (A : Int) ∧
      bits .and .u64 (Y : Int) 4294967295 = (B : Int) ∧ bits .or .u64 (IntKind.u64.wrap ((hi : Int) * 2 ^ s)) ((lo : Int) / 2 ^ (64 - s)) = (U : Int) ∧
      IntKind.u64.wrap ((lo : Int) * 2 ^ s) = (T : Int) ∧ (T : Int) / 4294967296 = (T1 : Int) ∧ bits .and .u64 (T : Int) 4294967295 = (T0 : Int) ∧
      Dg Y A B U T1 ∧ T0 < 4294967296 ∧ Y < 18446744073709551616 ∧ Y = y * 2 ^ s ∧ N * 2 ^ s = (U * 4294967296 + T1) * 4294967296 + T0 := by
  have hy0 : y ≠ 0 := by clear hNN; omega
  obtain ⟨b1, b2, b3⟩ := Lib.bitLenAux_bounds 64 y (by omega) hy0
  have hbl : Lib.bitLen y = Lib.bitLenAux 64 y := rfl
  rw [← hbl] at b1 b2 b3
  have b4 : Lib.bitLen y ≤ 64 := Lib.bitLen_le y 64 (by omega) (by omega)
  generalize hb : Lib.bitLen y = bl at *
  obtain ⟨s, hs⟩ : ∃ s, s = 64 - bl := ⟨_, rfl⟩
  have hpow : 2 ^ (64 - s) * 2 ^ s = 18446744073709551616 := by
    rw [← Nat.pow_add, show 64 - s + s = 64 from by omega]
  have hYlt : y * 2 ^ s < 18446744073709551616 := by
    rw [← hpow]
    exact Nat.mul_lt_mul_of_pos_right (by rw [show 64 - s = bl from by omega]; exact b3) (Nat.two_pow_pos s)
  have hYge : 9223372036854775808 ≤ y * 2 ^ s := by
    have h5 : 2 ^ (bl - 1) * 2 ^ s ≤ y * 2 ^ s := Nat.mul_le_mul_right _ b2
    rw [← Nat.pow_add, show bl - 1 + s = 63 from by omega] at h5
    exact h5
  have hHlt : hi * 2 ^ s + 2 ^ s ≤ y * 2 ^ s := by
    have := Nat.mul_le_mul_right (2 ^ s) (show hi + 1 ≤ y by omega)
    rwa [Nat.add_mul, Nat.one_mul] at this
  have hLlt : lo / 2 ^ (64 - s) < 2 ^ s := by
    rw [Nat.div_lt_iff_lt_mul (Nat.two_pow_pos _), Nat.mul_comm, hpow]
    exact h3
  have hlo : lo * 2 ^ s = lo / 2 ^ (64 - s) * 18446744073709551616 + lo % 2 ^ (64 - s) * 2 ^ s := by
    conv => lhs; rw [← Nat.div_add_mod lo (2 ^ (64 - s))]
    rw [Nat.add_mul, Nat.mul_comm (2 ^ (64 - s)), Nat.mul_assoc, hpow]
  have hTlt : lo % 2 ^ (64 - s) * 2 ^ s < 18446744073709551616 := by
    rw [← hpow]
    exact Nat.mul_lt_mul_of_pos_right (Nat.mod_lt _ (Nat.two_pow_pos _)) (Nat.two_pow_pos s)
  have c1 : ((y : Int) * 2 ^ s) = ((y * 2 ^ s : Nat) : Int) := by simp
  have c2 : ((hi : Int) * 2 ^ s) = ((hi * 2 ^ s : Nat) : Int) := by simp
  have c3 : ((lo : Int) * 2 ^ s) = ((lo * 2 ^ s : Nat) : Int) := by simp
  have c4 : ((lo : Int) / 2 ^ (64 - s)) = ((lo / 2 ^ (64 - s) : Nat) : Int) := by simp
  have hor : hi * 2 ^ s ||| lo / 2 ^ (64 - s) = hi * 2 ^ s + lo / 2 ^ (64 - s) := nat_join s _ _ (Nat.mul_mod_left _ _) hLlt
  have hN : (hi * 18446744073709551616 + lo) * 2 ^ s = (hi * 2 ^ s + lo / 2 ^ (64 - s)) * 18446744073709551616 + lo % 2 ^ (64 - s) * 2 ^ s := by
    rw [Nat.add_mul, hlo, Nat.mul_assoc, Nat.mul_comm 18446744073709551616 (2 ^ s), ← Nat.mul_assoc]
    omega
  refine ⟨s, y * 2 ^ s, y * 2 ^ s / 4294967296, y * 2 ^ s % 4294967296, hi * 2 ^ s + lo / 2 ^ (64 - s), lo % 2 ^ (64 - s) * 2 ^ s, lo % 2 ^ (64 - s) * 2 ^ s / 4294967296, lo % 2 ^ (64 - s) * 2 ^ s % 4294967296, ?_, by omega, ?_, ?_, ?_, ?_, ?_, ?_, ?_, ⟨by omega, by omega, by omega, by omega, ?_, by omega⟩, by omega, hYlt, rfl, ?_⟩
  · rw [Int.toNat_natCast, hb]; omega
  · rw [c1, IntKind.wrap_u64]; omega
  · omega
  · rw [show (4294967295 : Int) = ((4294967295 : Nat) : Int) from rfl, u64_and_nat _ _ hYlt (by omega)]
    exact congrArg _ (Nat.and_two_pow_sub_one_eq_mod _ 32)
  · rw [c2, c4, IntKind.wrap_u64, show ((hi * 2 ^ s : Nat) : Int) % 18446744073709551616 = ((hi * 2 ^ s : Nat) : Int) from by omega, u64_or_nat _ _ (by omega) (by omega), hor]
  · rw [c3, IntKind.wrap_u64, hlo]; omega
  · omega
  · rw [show (4294967295 : Int) = ((4294967295 : Nat) : Int) from rfl, u64_and_nat _ _ hTlt (by omega)]
    exact congrArg _ (Nat.and_two_pow_sub_one_eq_mod _ 32)
  · omega
  · rw [hNN, hN]; omega
theorem div_end (N y s Y u d1 d0 q1 u2 q0 r : Nat) (hY : Y = y * 2 ^ s) (hN : N * 2 ^ s = (u * 4294967296 + d1) * 4294967296 + d0) (e1 : u * 4294967296 + d1 = q1 * Y + u2)
    (e0 : u2 * 4294967296 + d0 = q0 * Y + r) (hr : r < Y) : N / y = q1 * 4294967296 + q0 ∧ r / 2 ^ s = N % y := by
  have hp := Nat.two_pow_pos s
  have hy : 0 < y := by
    rcases Nat.eq_zero_or_pos y with h | h
    · rw [h, Nat.zero_mul] at hY; omega
    · exact h
  have key : N * 2 ^ s = (q1 * 4294967296 + q0) * Y + r := by
    rw [hN, e1]
    exact lin_end _ _ _ _ _ _ _ e0
  rw [hY, ← Nat.mul_assoc] at key
  have hle : (q1 * 4294967296 + q0) * y ≤ N := by
    have h5 : (q1 * 4294967296 + q0) * y * 2 ^ s ≤ N * 2 ^ s := by omega
    exact Nat.le_of_mul_le_mul_right h5 hp
  obtain ⟨t, ht⟩ := Nat.exists_eq_add_of_le hle
  rw [ht, Nat.add_mul] at key
  have hrt : r = t * 2 ^ s := by omega
  have htl : t < y := by
    rw [hrt, hY] at hr
    exact Nat.lt_of_mul_lt_mul_right hr
  rw [ht, hrt, Nat.mul_div_cancel _ hp, Nat.mul_comm _ y]
  refine ⟨?_, ?_⟩
  · rw [Nat.mul_add_div hy, Nat.div_eq_of_lt htl, Nat.add_zero]
  · rw [Nat.mul_add_mod, Nat.mod_eq_of_lt htl]
theorem rest_val (U T Q Y u2 : Nat) (h : U * 4294967296 + T = Q * Y + u2) (h2 : u2 < 18446744073709551616) :
    IntKind.u64.wrap (IntKind.u64.wrap (IntKind.u64.wrap ((U : Int) * 4294967296) + (T : Int)) - IntKind.u64.wrap ((Q : Int) * (Y : Int))) = (u2 : Int) := by
  rw [show (Q : Int) * (Y : Int) = ((Q * Y : Nat) : Int) from by simp, IntKind.wrap_u64, IntKind.wrap_u64, IntKind.wrap_u64, IntKind.wrap_u64]
  generalize Q * Y = m at *
  omega
theorem both_val (Q1 Q0 z : Nat) (h1 : Q1 < 4294967296) (h0 : Q0 < 4294967296) (hz : z = Q1 * 4294967296 + Q0) : IntKind.u64.wrap (IntKind.u64.wrap ((Q1 : Int) * 4294967296) + (Q0 : Int)) = (z : Int) := by
  rw [IntKind.wrap_u64, IntKind.wrap_u64]
  omega
theorem Dg.u2 {Y A B u d u2 : Nat} (h : Dg Y A B u d) (hu : u2 = u * 4294967296 + d - dgQ Y u d * Y) : u * 4294967296 + d = dgQ Y u d * Y + u2 ∧ u2 < Y := by
  obtain ⟨h1, h2⟩ := h.rest
  rw [hu]
  refine ⟨?_, h2⟩
  generalize dgQ Y u d * Y = m at *
  omega
end Go.Proofs.Ytlbccpiadmcpjaa
end
