import Derived.Test.YtlbccpiadmcpjaaNd22
import Derived.Test.YtlbccpiadmcpjaaNd23
section
namespace Go.Proofs.Ytlbccpiadmcpjaa
open Go.ChangeShapes Go.WideShapes Go.ChangeAt Go.RowKit
set_option linter.unusedVariables false
set_option linter.unusedSimpArgs false

def idI (id : Int) (x : Iq) : Bool := x.id == id
def findI (l : List Iq) (id : Int) : Iq := pickL (idI id) Iq.zero l
def hasI (l : List Iq) (id : Int) : Bool := (l.find? (idI id)).isSome
theorem casesI (l : List Iq) (id : Int) : (hasI l id = false ∧ atL (idI id) l = -1 ∧ findI l id = Iq.zero ∧ l.find? (idI id) = none) ∨ ∃ k : Nat, ∃ hk : k < l.length, hasI l id = true ∧ atL (idI id) l = k ∧ findI l id = l[k] ∧ idI id l[k] = true ∧ ∀ j, (hj : j < k) → idI id (l[j]'(by omega)) = false := by
  rcases atL_cases (idI id) l with ⟨h0, hno⟩ | ⟨k, hk, h0, hpk, hno⟩
  · have hf := find_none hno
    exact .inl ⟨by rw [hasI, hf]; rfl, h0, by rw [findI, pickL, hf]; rfl, hf⟩
  · have hf := find_some hk hno hpk
    exact .inr ⟨k, hk, by rw [hasI, hf]; rfl, h0, by rw [findI, pickL, hf]; rfl, hpk, hno⟩
def IRes (B : Nat) (w' : World) (e : Ending) (R : Int × List Iq) : Prop :=
  ∃ A' c', e = .returned (.tuple #[.slice A' R.2.length c', .int .i64 R.1]) ∧ w'.ownsRow B 48 5 (.slice A' R.2.length c') R.2.length (rc Iq.cells R.2)
theorem IRes.nil (B : Nat) (w' : World) (n : Int) : IRes B w' (.returned (.tuple #[.slice none 0 0, .int .i64 n])) (n, []) := ⟨none, 0, rfl, own_nil _ _ _⟩
theorem own_capI {w : World} {base : Nat} {e : TypeId} {size n c : Nat} {A : Option Addr} {xs : List Value} (h : w.ownsRow base e size (.slice A n c) n xs) : n ≤ c ∧ c ≤ maxLen := by
  rcases h.2 with ⟨hv, h0⟩ | ⟨g, cap, cur, hv, hg, hh, hnc, hcm, _⟩
  · injection hv with e1 e2 e3; subst e3; subst h0; exact ⟨Nat.le_refl _, by decide⟩
  · injection hv with e1 e2 e3; subst e3; exact ⟨hnc, hcm⟩
structure GI (w : World) (g : Iq) (i : Ins) : Prop where
  id : g.id = i.id
  mult : g.mult = i.mult
  price : g.price = i.price
  nxt : g.nxt = i.nxt
  len : g.mvL = i.mv.length
  at_ : InsAt w i g.mv g.mvC
theorem GI.below {w w' : World} {g : Iq} {i : Ins} (h : GI w g i) (hb : Below w.heap.size w w') : GI w' g i := ⟨h.id, h.mult, h.price, h.nxt, h.len, h.at_.below hb⟩
theorem GI.val {w : World} {g : Iq} {i : Ins} (h : GI w g i) : g.val = insV i g.mv g.mvC := by
  obtain ⟨a, b, c, d, e, f, k⟩ := g
  obtain ⟨h0, h1, h2, h3, h4, _⟩ := h
  simp only at h0 h1 h2 h3 h4
  subst h0; subst h1; subst h2; subst h3; subst h4
  rfl
def GoodI (w : World) (l : List Iq) : Prop := ∀ g ∈ l, ∃ i : Ins, GI w g i
theorem GoodI.below {w w' : World} {l : List Iq} (h : GoodI w l) (hb : Below w.heap.size w w') : GoodI w' l := fun g hg => by
  obtain ⟨i, hi⟩ := h g hg
  exact ⟨i, hi.below hb⟩
def InTab (w : World) (l : List Iq) (is : List Ins) : Prop := l.length = is.length ∧ ∀ k, (h : k < l.length) → (h2 : k < is.length) → GI w l[k] is[k]
theorem InTab.below {w w' : World} {l : List Iq} {is : List Ins} (h : InTab w l is) (hb : Below w.heap.size w w') : InTab w' l is := ⟨h.1, fun k h1 h2 => (h.2 k h1 h2).below hb⟩
theorem InTab.nil (w : World) : InTab w [] [] := ⟨rfl, fun k h => by simp at h⟩
theorem InTab.cons {w : World} {g : Iq} {i : Ins} {l : List Iq} {is : List Ins} (h : GI w g i) (ht : InTab w l is) : InTab w (g :: l) (i :: is) :=
  ⟨by simp [ht.1], fun k h1 h2 => by
    cases k with
    | zero => exact h
    | succ k => exact ht.2 k (by simpa using h1) (by simpa using h2)⟩
def fndI (is : List Ins) (id : Int) : Option Ins := is.find? fun i => i.id == id
theorem InTab.find {w : World} (id : Int) : ∀ {l : List Iq} {is : List Ins}, InTab w l is → (l.find? (idI id) = none ∧ fndI is id = none) ∨ (∃ g i, l.find? (idI id) = some g ∧ fndI is id = some i ∧ GI w g i)
  | [], [], _ => .inl ⟨rfl, rfl⟩
  | [], _ :: _, h => by have := h.1; simp at this
  | _ :: _, [], h => by have := h.1; simp at this
  | g :: l, i :: is, h => by
    have h0 := h.2 0 (by simp) (by simp)
    have ht : InTab w l is := ⟨by simpa using h.1, fun k h1 h2 => h.2 (k + 1) (by simpa using h1) (by simpa using h2)⟩
    simp only [List.getElem_cons_zero] at h0
    unfold fndI
    rw [List.find?_cons, List.find?_cons]
    have e : idI id g = (i.id == id) := by unfold idI; rw [h0.id]
    rw [e]
    cases hq : (i.id == id) with
    | true => exact .inr ⟨g, i, rfl, rfl, h0⟩
    | false => exact InTab.find id ht
theorem mem_fndI {is : List Ins} {id : Int} {i : Ins} (h : fndI is id = some i) : i ∈ is := List.mem_of_find?_eq_some h
def FIns (w' : World) (e : Ending) (r : Option Ins) : Prop :=
  match r with
  | none => e = .returned (.tuple #[.agg #[.int .i64 0, .int .i64 0, .int .i64 0, .int .i64 0, .slice none 0 0], .bool false])
  | some i => ∃ A' c', e = .returned (.tuple #[insV i A' c', .bool true]) ∧ InsAt w' i A' c'
set_option maxHeartbeats 1000000 in
set_option maxRecDepth 100000 in
theorem iplace1_any (x : Iq) (id : Int) (b : Nat) (w : World) (h0 : w.cell? ⟨b, 0, none⟩ = some (.int .i64 id)) :
    Calls Try.prog 107 #[x.val, .pointer (some ⟨b, 0, none⟩)] w fun e w' => e = .returned (.bool (idI id x)) ∧ Below w.heap.size w w' := by
  have hB := since_alloc (Below.refl _ w) (.cells x.cells.toArray 48)
  have hlt := World.block_lt_of_cell? _ _ h0
  unfold Iq.val
  go_enter Try.func107, Try.ntmps107
  go_wp2_with fail
  go_ret
  exact ⟨rfl, hB⟩
theorem ent_iplace1 : Ent Try.prog 107 := Ent.of (by kernel_rfl)
theorem tells_iplace1 (id : Int) (b : Nat) (w : World) (h : w.cell? ⟨b, 0, none⟩ = some (.int .i64 id)) : Iq.Tells 107 #[.pointer (some ⟨b, 0, none⟩)] (idI id) w.heap.size w :=
  fun x W hW => iplace1_any x id b W ((hW.cell (p := ⟨b, 0, none⟩) (World.block_lt_of_cell? _ _ h)).trans h)
set_option maxHeartbeats 1000000 in
set_option maxRecDepth 100000 in
theorem iplace_any (A : Option Addr) (cap : Nat) (l : List Iq) (id : Int) (w : World) (hl : l.length ≤ 1000000) (hs : Sl w A (rc Iq.cells l)) :
    Calls Try.prog 101 #[.slice A l.length cap, .int .i64 id] w fun e w' => e = .returned (.int .i64 (atL (idI id) l)) ∧ Below w.heap.size w w' := by
  go_enter Try.func101, Try.ntmps101
  go_wp2_with fail
  refine (index_iq A cap l 107 #[.pointer (some ⟨w.heap.size, 0, none⟩)] (idI id) _ hl (hs.alloc _) ent_iplace1 (tells_iplace1 id w.heap.size _ (by simp))).mono ?_
  rintro e w1 ⟨rfl, hb1⟩
  have hB1 := since_step (since_alloc (Below.refl _ _) _) hb1
  clear hb1
  go_wp2_with fail
  go_ret
  exact ⟨rfl, hB1⟩
theorem sx_ints : ∀ l : List Int, rc Sx.cells (l.map Sx.mk) = ints .i64 l
  | [] => rfl
  | x :: l => by rw [List.map_cons, rc_cons, sx_ints l]; rfl
set_option maxHeartbeats 4000000 in
set_option maxRecDepth 100000 in
theorem ifind_any (A : Option Addr) (cap : Nat) (l : List Iq) (is : List Ins) (id : Int) (w : World) (hl : l.length ≤ 900000) (hcl : ∀ i ∈ is, i.mv.length ≤ 900000) (hs : Sl w A (rc Iq.cells l)) (ht : InTab w l is) :
    Calls Try.prog 97 #[.slice A l.length cap, .int .i64 id] w fun e w' => FIns w' e (fndI is id) ∧ Below w.heap.size w w' := by
  have hB0 := since_alloc (Below.refl _ w) (.cells #[.int .i64 0, .int .i64 0, .int .i64 0, .int .i64 0, .slice none 0 0] 48)
  have hZ0 := BzIq.new w
  have hs0 := hs.alloc (.cells #[.int .i64 0, .int .i64 0, .int .i64 0, .int .i64 0, .slice none 0 0] 48)
  have ht0 := ht.below ((Below.refl _ _).alloc (Nat.le_refl _) (.cells #[.int .i64 0, .int .i64 0, .int .i64 0, .int .i64 0, .slice none 0 0] 48))
  have hfd := ht.find id
  have HPL := Lib.hid (fun V h => iplace_any A cap l id V (by omega) h)
  have hcs := @cell_set
  clear hs ht
  rcases casesI l id with ⟨h0, hat, _, hn⟩ | ⟨k, hk, h0, hat, hf, hid, _⟩
  · have HR : Hid (fndI is id = none) := Lib.hid (by rcases hfd with ⟨_, h⟩ | ⟨g, i, h, _⟩; exact h; rw [hn] at h; cases h)
    have HAT := Lib.hid hat
    clear hfd h0 hat hn
    go_enter Try.func97, Try.ntmps97
    go_wp2_with fail
    refine (HPL.out _ hs0).mono ?_
    rw [HAT.out]
    rintro e w1 ⟨rfl, hb⟩
    have hB1 := since_step hB0 hb
    have hZ1 := hZ0.below hb
    clear hb
    obtain ⟨z0, z1, z2, z3, z4⟩ := hZ1.got
    have fz := hZ1.fz
    have lz := hZ1.bk.1
    go_wp2_with fail
    refine bodyPost_ret (v := .tuple #[.agg #[.int .i64 0, .int .i64 0, .int .i64 0, .int .i64 0, .slice none 0 0], .bool false]) ?_ rfl ⟨?_, ?_⟩
    · simp [results, Try.results97, go_sem, z0, z1, z2, z3, z4, fz]
    · rw [HR.out]; rfl
    · repeat' (first | with_reducible exact hB1 | with_reducible refine Below.setCell ?_ ?_ _ | with_reducible refine Below.alloc ?_ ?_ _)
      all_goals first | (simp; done) | (simp; omega)
  · obtain ⟨i, hc1, hc2, hc3⟩ : ∃ i, fndI is id = some i ∧ GI (w.alloc (.cells #[.int .i64 0, .int .i64 0, .int .i64 0, .int .i64 0, .slice none 0 0] 48)) l[k] i ∧ i.mv.length ≤ 900000 := by
      rcases hfd with ⟨h, _⟩ | ⟨g, i, h1, h2, h3⟩
      · rw [hasI, h] at h0; cases h0
      · have hg : findI l id = g := by rw [findI, pickL, h1]; rfl
        rw [hf] at hg
        rw [hg]
        exact ⟨i, h2, h3.below ((Below.refl _ _).alloc (Nat.le_refl _) _), hcl i (mem_fndI h2)⟩
    have HR := Lib.hid hc1
    have HAT := Lib.hid hat
    have hk0 : ¬ ((k : Int) < 0) := by omega
    have hk1 : (0 : Int) ≤ (k : Int) := by omega
    have hk2 : (k : Int) < (l.length : Int) := by omega
    clear hfd h0 hat hf hc1 hcl hid
    go_enter Try.func97, Try.ntmps97
    go_wp2_with fail
    refine (HPL.out _ hs0).mono ?_
    rw [HAT.out]
    rintro e w1 ⟨rfl, hb⟩
    have hB1 := since_step hB0 hb
    have hZ1 := hZ0.below hb
    have hi1 := hc2.below hb
    obtain ⟨b, o, rfl, hbw, hg⟩ := (hs0.below hb).iq hk
    clear hb hc2
    generalize l[k] = v at *
    obtain ⟨a0, a1, a2, a3, p1, aL, p2⟩ := v
    obtain ⟨i0, i1, i2, i3, i4, hat2⟩ := hi1
    simp only at i0 i1 i2 i3 i4 hat2
    subst i0; subst i1; subst i2; subst i3; subst i4
    obtain ⟨g0, g1, g2, g3, g4⟩ := hg
    simp only at g0 g1 g2 g3 g4
    have hsl : Sl w1 p1 (rc Sx.cells (i.mv.map Sx.mk)) := by rw [sx_ints]; exact hat2.sl
    have HML : Hid ((i.mv.map Sx.mk).length = i.mv.length) := Lib.hid (by simp)
    have HDU := dup1_iq i.id i.mult i.price i.nxt p1 p2 (i.mv.map Sx.mk) w1 (by rw [HML.out]; exact hc3) hsl
    rw [HML.out, sx_ints] at HDU
    have HDU := Lib.hid HDU
    have HIA := Lib.hid hat2
    clear hsl hat2
    go_wp2_with fail
    refine HDU.out.mono ?_
    rintro e w2 ⟨⟨A3, c3, rfl, own3⟩, hb2⟩
    have hB2 := since_step hB1 hb2
    have hZ2 := hZ1.below hb2
    have lz1 := hZ1.bk.1
    clear hb2 g0 g1 g2 g3 g4
    obtain ⟨z0, z1, z2, z3, z4⟩ := hZ2.got
    have fz := hZ2.fz
    have lz := hZ2.bk.1
    have hcp := own_capI own3
    go_wp2_with fail
    refine bodyPost_ret (v := .tuple #[.agg #[.int .i64 i.id, .int .i64 i.mult, .int .i64 i.price, .int .i64 i.nxt, .slice A3 i.mv.length c3], .bool true]) ?_ rfl ⟨?_, ?_⟩
    · simp [results, Try.results97, go_sem, z0, z1, z2, z3, z4, fz, hcs]
    · rw [HR.out]
      refine ⟨A3, c3, rfl, ⟨hcp, Sl.of_own (base := w1.heap.size) (e := 2) (size := 1) (n := i.mv.length) (c := c3) ?_, HIA.out.mv64, HIA.out.n64⟩⟩
      repeat' (first | with_reducible exact own3 | with_reducible refine own_setFar' ?_ ?_ _)
      all_goals first | (simp; done) | (simp; omega)
    · repeat' (first | with_reducible exact hB2 | with_reducible refine Below.setCell ?_ ?_ _ | with_reducible refine Below.alloc ?_ ?_ _)
      all_goals first | (simp; done) | (simp; omega)
end Go.Proofs.Ytlbccpiadmcpjaa
end
section
namespace Go.Proofs.Ytlbccpiadmcpjaa
open Go.ChangeShapes Go.WideShapes Go.ChangeAt Go.RowKit
set_option linter.unusedVariables false
set_option linter.unusedSimpArgs false

theorem abs_mul_le {a b A B : Int} (ha : -A ≤ a ∧ a ≤ A) (hb : -B ≤ b ∧ b ≤ B) : -(A * B) ≤ a * b ∧ a * b ≤ A * B := by
  have h1 : (a.natAbs : Int) ≤ A := by omega
  have h2 : (b.natAbs : Int) ≤ B := by omega
  have h3 : ((a * b).natAbs : Int) ≤ A * B := by
    rw [Int.natAbs_mul, Int.natCast_mul]
    exact Int.mul_le_mul h1 h2 (by omega) (by omega)
  omega
theorem move_in {q m t : Int} (hq : In64 q) (hm : -2147483647 ≤ m ∧ m ≤ 2147483647) (ht : 1 ≤ t ∧ t ≤ 65536) : In64 m ∧ In64 t ∧ In128 (q * m) ∧ In128 (q * m * t) := by
  unfold In64 at hq
  have h1 := abs_mul_le (A := 9223372036854775808) (B := 2147483647) (a := q) (b := m) (by omega) (by omega)
  have h2 := abs_mul_le (A := 9223372036854775808 * 2147483647) (B := 65536) (a := q * m) (b := t) (by omega) (by omega)
  unfold In64 In128
  generalize q * m * t = z at *
  generalize q * m = y at *
  omega
set_option maxHeartbeats 2000000 in
theorem made_any (q m t : Int) (hq : In64 q) (hm : -2147483647 ≤ m ∧ m ≤ 2147483647) (ht : 1 ≤ t ∧ t ≤ 65536) (w : World) :
    Calls Try.prog 104 #[.int .i64 q, .int .i64 m, .int .i64 t] w fun e w' => e = .returned (.agg #[.int .i64 (hiN (q * m * t)), .int .u64 (loN (q * m * t))]) ∧ Below w.heap.size w w' := by
  obtain ⟨hm64, ht64, hin, hin2⟩ := move_in hq hm ht
  have hcs := @cell_set
  have HM := Lib.hid (fun w => wmul_any q m hq hm64 w)
  have HT := fun w => wtimes_any (q * m) t hin ht64 w
  rw [wideE_yes hin2] at HT
  have HT := Lib.hid HT
  generalize q * m * t = z at *
  generalize q * m = y at *
  clear hq hm ht hm64 ht64 hin hin2
  go_enter Try.func104, Try.ntmps104
  go_wp2_with fail
  refine (HM.out _).mono ?_
  rintro e w1 ⟨rfl, hb1⟩
  have A2 : T2 w1 w.heap.size 0 0 := (T2.new w 0 0 98).below hb1
  have hB1 := since_step (since_alloc (Below.refl _ _) _) hb1
  clear hb1
  go_wp2_with fail
  refine (HT.out _).mono ?_
  rintro e w2 ⟨rfl, hb2⟩
  have B2 := A2.below hb2
  have hB2 := since_step hB1 hb2
  have hsz := B2.1
  have hn1 : ¬ w.heap.size = w2.heap.size := by omega
  have hn2 : ¬ w2.heap.size = w.heap.size := by omega
  obtain ⟨q0, q1, q2, q3, q4⟩ := _root_.id B2
  clear hb2 A2 hB1
  go_wp2_with fail
  refine bodyPost_ret (v := .agg #[.int .i64 (hiN z), .int .u64 (loN z)]) ?_ rfl ?_
  · obtain ⟨f0, f1, f2, f3, f4⟩ := (B2.set2 (hiN z) (loN z)).alloc (.cells #[.int .i64 (hiN z), .int .u64 (loN z)] 98)
    simp [results, Try.results104, go_sem, f1, f2]
  · refine ⟨rfl, ?_⟩
    repeat' (first | with_reducible exact hB2 | with_reducible refine Below.setCell ?_ ?_ _ | with_reducible refine since_alloc ?_ _)
    all_goals first | (simp; done) | (simp; omega)
theorem ok_mult {i : Ins} (h : okB i = true) : 1 ≤ i.mult ∧ i.mult ≤ 65536 := by
  unfold okB headB at h
  simp only [Bool.and_eq_true, decide_eq_true_eq] at h
  omega
theorem ok_move {i : Ins} (h : okB i = true) {k : Nat} (hk : k < i.mv.length) : -2147483647 ≤ i.mv[k] ∧ i.mv[k] ≤ 2147483647 := by
  unfold okB at h
  simp only [Bool.and_eq_true, List.all_eq_true] at h
  have := h.2 _ (List.getElem_mem hk)
  simp only [mvB, Bool.and_eq_true, decide_eq_true_eq] at this
  exact this
end Go.Proofs.Ytlbccpiadmcpjaa
end
