import Derived.Laws.OwnMore
import Derived.Test.YtiggcpfmmgmncaaVp04
import Derived.Deep.AppendSrc
import Derived.Deep.Upon
set_option maxHeartbeats 16000000
set_option maxRecDepth 100000
set_option linter.unusedVariables false
set_option linter.unusedSimpArgs false
namespace Go.Proofs.Ytiggcpfmmgmncaa
open Go.ChangeShapes Go.WideShapes Go.ChangeAt Go.RowKit
section
theorem wpList_fits {P : Program} {w : World} {ops : Array Oper} {rest : List Oper} {o : Oper} {a : Act} {Q : Exit → Act → World → Prop} (hgd : o.guard = none) (s x : Operand) {t e : TypeId} {size bytes : Nat}
    (ho : o.op = .call { callee := .builtin .append, args := #[s, x], argTypes := #[t, t] }) (E : Elem P t e size bytes) {base n m c d g : Nat} {B : Option Addr} {xs news : List Value}
    (hs : a.eval s = .slice (some ⟨g, 0, none⟩) n c) (hx : a.eval x = .slice B m d)
    (hown : w.ownsRow base e size (.slice (some ⟨g, 0, none⟩) n c) n xs) (hl : news.length = m * size) (hm : 0 < m) (hr : Sl w B news) (h1 : ∀ u ∈ news, u.oneCell' = true) (hroom : n + m ≤ c)
    (h : ∀ w', w'.ownsRow base e size (.slice (some ⟨g, 0, none⟩) (n + m) c) (n + m) (xs ++ news) → Below base w w' → wpList P ops Q rest (a.put o.dst (.slice (some ⟨g, 0, none⟩) (n + m) c)) w') :
    wpList P ops Q (o :: rest) a w :=
  wpList_plain hgd fun _ hK => by
    obtain ⟨i, z, hi, hz, hsize, hby, hzs⟩ := E.info
    have hne : news ≠ [] := by
      intro h0
      rw [h0, List.length_nil] at hl
      rcases Nat.mul_eq_zero.1 hl.symm with h | h
      · omega
      · have := E.pos; omega
    obtain ⟨b, o2, rfl, hc⟩ := hr hne
    obtain ⟨w', hrun, h2, h3⟩ := run_append_fits (P := P) w base t o.type e i size E.und hi hsize g n c xs hown ⟨b, o2, none⟩ m d news hl (fun j u hu => by rw [addr_add]; exact hc j u hu) h1 hroom
    have hb : Below base w w' := below_of_grown h3 (Nat.le_of_lt (Nat.lt_of_le_of_lt (own_ge hown g rfl) (hown.lt g rfl).2)) (fun b hb => by injection hb with hb; subst hb; exact own_ge hown _ rfl)
    unfold Oper.wp execOp
    simp only [ho, resolve, invoke, builtin, Sem.run_bind, Sem.run_pure, Result.andThen_ok, List.map_toArray, List.map_cons, List.map_nil, hs, hx, hrun]
    exact hK _ _ (h w' h2 hb)
theorem put7_fit (W g : Nat) (c : Nat) (xs : List Nat) (n s : Nat) (w : World) (hs : s ≤ 8) (hn : n < 9223372036854775808) (hxl : xs.length + s ≤ c) (hcm : c ≤ 1000000) (hW : W ≤ w.heap.size) (hown : w.ownsRow W 5 1 (.slice (some ⟨g, 0, none⟩) xs.length c) xs.length (by8 xs)) :
    Calls Try.prog 94 #[.slice (some ⟨g, 0, none⟩) xs.length c, .int .i64 n, .int .i64 s] w fun e w' => e = .returned (.slice (some ⟨g, 0, none⟩) (xs ++ bign s n).length c) ∧ w'.ownsRow W 5 1 (.slice (some ⟨g, 0, none⟩) (xs ++ bign s n).length c) (xs ++ bign s n).length (by8 (xs ++ bign s n)) ∧ Below W w w' := by
  have HB := Lib.hid (fun j (h : j < s) => bign_take (n := n) h)
  have HL := Lib.hid (bign_len s n)
  obtain ⟨Y, hY⟩ : ∃ Y, bign s n = Y := ⟨_, rfl⟩
  rw [hY] at HB HL ⊢
  clear hY
  go_enter Try.func94, Try.ntmps94
  go_wp2_with fail
  go_loopw [0, 7] (fun bv iv wr => ∃ (j : Nat), j ≤ s ∧ bv = .slice (some ⟨g, 0, none⟩) (xs ++ Y.take j).length c ∧ iv = .int .i64 ((s : Int) - 1 - j) ∧ wr.ownsRow W 5 1 (.slice (some ⟨g, 0, none⟩) (xs ++ Y.take j).length c) (xs ++ Y.take j).length (by8 (xs ++ Y.take j)) ∧ Below W w wr ∧ W ≤ wr.heap.size) (fun _ iv _ => (intOf iv + 1).toNat)
  case atStart => exact ⟨0, by omega, by simp, by simp, by simpa using hown, Below.refl _ _, hW⟩
  case round =>
    obtain ⟨j, hj, rfl, rfl, own2, hB, hWs⟩ := hrel
    clear hown
    by_cases hlt : j < s
    · have hT := HB.out j hlt
      obtain ⟨z, hz⟩ : ∃ z : Int, (s : Int) - 1 - j = z := ⟨_, rfl⟩
      rw [hz]
      have hz0 : 0 ≤ z := by omega
      have hz7 : z ≤ 7 := by omega
      obtain ⟨m, hm⟩ : ∃ m : Int, (n : Int) = m := ⟨_, rfl⟩
      rw [hm]
      have hm0 : 0 ≤ m := by omega
      have HZ := Lib.hid hz
      have HM := Lib.hid hm
      clear hz hm
      have HV : Hid (m / 2 ^ (8 * z).toNat % 256 = ((n / 256 ^ (s - 1 - j) % 256 : Nat) : Int)) := Lib.hid (by
        have e1 : (8 * z).toNat = 8 * (s - 1 - j) := by have := HZ.out; omega
        have e2 : (2 : Int) ^ (8 * (s - 1 - j)) = ((256 ^ (s - 1 - j) : Nat) : Int) := by
          rw [Int.pow_mul]; push_cast; rfl
        rw [e1, e2, ← HM.out]
        push_cast
        rfl)
      have HT := Lib.hid hT
      have hpl : (xs ++ Y.take j).length + 1 ≤ c := by rw [List.length_append, List.length_take]; omega
      obtain ⟨P, hP⟩ : ∃ P, xs ++ Y.take j = P := ⟨_, rfl⟩
      have HP : Hid (xs ++ Y.take (j + 1) = P ++ [n / 256 ^ (s - 1 - j) % 256]) := Lib.hid (by rw [HT.out, ← hP, List.append_assoc])
      rw [hP] at own2 hpl ⊢
      clear hP hT HT
      have hzi : z - 1 = (s : Int) - 1 - ((j + 1 : Nat) : Int) := by have := HZ.out; omega
      have HZI := Lib.hid hzi
      clear hzi
      go_wp2_with (first
        | (at_builtin; refine wpList_fits rfl (.tmp 14) (.tmp 20) rfl EF8 rfl rfl (own2.alloc _) (m := 1) (news := [.int .u8 (m / 2 ^ (8 * z).toNat % 256)]) rfl (by decide) (Sl.new_ _ _ _) (fun u hu => by simp only [List.mem_cons, List.not_mem_nil, or_false] at hu; subst hu; rfl) hpl ?_; intro w3 own3 hb3)
        | fail)
      rw [HV.out] at own3
      have hB3 := (hB.trans (((Below.refl _ wr).alloc (Nat.le_refl _) _).mono hWs)).trans hb3
      have hW3 : W ≤ w3.heap.size := by have := hb3.size; rw [World.size_alloc] at this; omega
      go_roundw
      case rel => exact ⟨j + 1, by omega, by rw [HP.out]; simp, by rw [← HZI.out], by rw [HP.out]; simpa [by8] using own3, hB3, hW3⟩
      case measure => simp [intOf]; omega
    · obtain rfl : j = s := by omega
      have e1 : Y.take j = Y := by rw [← HL.out, List.take_length]
      rw [e1] at own2 ⊢
      obtain ⟨z, hz⟩ : ∃ z : Int, (j : Int) - 1 - j = z := ⟨_, rfl⟩
      rw [hz]
      have hz0 : ¬ (0 : Int) ≤ z := by omega
      clear hz
      go_wp2_with fail
      go_ret
      exact ⟨by simp only [List.length_append]; rfl, by simpa only [List.length_append] using own2, hB⟩
end
section
theorem bign_one {n : Nat} (h : n < 256) : bign 1 n = [n] := bign1 h
theorem fenc7_bad (f : Fr) (A : Option Addr) (c : Nat) (w : World) (hok : f.ok = false) :
    Calls Try.prog 80 #[f.val A c] w fun e w' => ERes w.heap.size w' e (encF f) ∧ Below w.heap.size w w' := by
  obtain ⟨life, era, seq, part, parts, data⟩ := f
  unfold Fr.val
  simp only
  have HIS := Lib.hid (fit7_any ⟨life, era, seq, part, parts, data⟩ A c (w.alloc (.cells #[.int .i64 life, .int .i64 era, .int .i64 seq, .int .i64 part, .int .i64 parts, .slice A data.length c] 130)))
  unfold Fr.val at HIS
  simp only at HIS
  have hE : encF ⟨life, era, seq, part, parts, data⟩ = ([], 2) := if_neg (by rw [hok]; decide)
  have HE := Lib.hid hE
  rw [hok] at HIS
  clear hE hok
  go_enter Try.func80, Try.ntmps80
  go_wp2_with fail
  refine HIS.out.mono ?_
  rintro e v1 ⟨rfl, hB⟩
  have hB2 := ((Below.refl _ w).alloc (Nat.le_refl _) _).trans (hB.mono (by rw [World.size_alloc]; omega))
  go_wp2_with fail
  go_ret2
  refine ⟨⟨none, 0, ?_, ?_⟩, hB2⟩
  · rw [HE.out]; rfl
  · rw [HE.out]; exact own_nil _ _ _
theorem run_zeros_none {w : World} (ty : TypeId) {g n c : Nat} (hroom : n ≤ c) :
    (Builtin.append_ #[36, 3] ty #[.slice (some ⟨g, 0, none⟩) n c, .int .i64 0]).run Try.prog w = .ok (.slice (some ⟨g, 0, none⟩) n c) w := by
  obtain ⟨i, hi, hz, hsize, hby⟩ := info_parts (show (Try.prog.info? 5).map (fun i => (i.zero, i.size, i.bytes)) = some (some (.int .u8 0), 1, 1) by kernel_rfl)
  have htn : Try.prog.underlying 3 = some (.int .i64) := by kernel_rfl
  have hw : IntKind.i64.wrap 0 = 0 := by decide
  simp [Builtin.append_, run_underlying EF8.und, run_underlying htn, sizeOf, typeInfo, zeroValue, hi, hz, hsize, hby, asInt, asIntOf, hw, hroom, Value.cells, storeCells, Builtin.zeroCells]
end
section
theorem wpList_zr {w : World} {ops : Array Oper} {rest : List Oper} {o : Oper} {a : Act} {Q : Exit → Act → World → Prop} (hgd : o.guard = none) (s x : Operand)
    (ho : o.op = .call { callee := .builtin .append, args := #[s, x], argTypes := #[36, 3] }) {W g n c k : Nat} {K : Int} {l : List Nat}
    (hs : a.eval s = .slice (some ⟨g, 0, none⟩) n c) (hx : a.eval x = .int .i64 K) (hK : K = (k : Int))
    (hown : w.ownsRow W 5 1 (.slice (some ⟨g, 0, none⟩) n c) n (by8 l)) (hroom : n + k ≤ c) (hc : c ≤ 1000000)
    (h : ∀ w', w'.ownsRow W 5 1 (.slice (some ⟨g, 0, none⟩) (n + k) c) (n + k) (by8 (l ++ List.replicate k 0)) → Below W w w' → wpList Try.prog ops Q rest (a.put o.dst (.slice (some ⟨g, 0, none⟩) (n + k) c)) w') :
    wpList Try.prog ops Q (o :: rest) a w :=
  wpList_plain hgd fun _ hK2 => by
    subst hK
    by_cases hk : 0 < k
    · obtain ⟨w', hrun, h2, h3⟩ := run_zeros_room (w := w) o.type hown hk hroom hc
      have hb : Below W w w' := below_of_grown h3 (Nat.le_of_lt (Nat.lt_of_le_of_lt (own_ge hown g rfl) (hown.lt g rfl).2)) (fun b hb => by injection hb with hb; subst hb; exact own_ge hown _ rfl)
      unfold Oper.wp execOp
      simp only [ho, resolve, invoke, builtin, Sem.run_bind, Sem.run_pure, Result.andThen_ok, List.map_toArray, List.map_cons, List.map_nil, hs, hx, hrun]
      exact hK2 _ _ (h w' h2 hb)
    · obtain rfl : k = 0 := by omega
      have hrun := run_zeros_none (w := w) o.type (g := g) (n := n) (c := c) (by omega)
      unfold Oper.wp execOp
      simp only [ho, resolve, invoke, builtin, Sem.run_bind, Sem.run_pure, Result.andThen_ok, List.map_toArray, List.map_cons, List.map_nil, hs, hx, Int.natCast_zero, Int.cast_ofNat_Int, hrun]
      exact hK2 _ _ (h w (by simpa using hown) (Below.refl _ _))
theorem wpList_fits0 {w : World} {ops : Array Oper} {rest : List Oper} {o : Oper} {a : Act} {Q : Exit → Act → World → Prop} (hgd : o.guard = none) (s x : Operand)
    (ho : o.op = .call { callee := .builtin .append, args := #[s, x], argTypes := #[36, 36] }) {W n m c d g : Nat} {B : Option Addr} {l news : List Nat}
    (hs : a.eval s = .slice (some ⟨g, 0, none⟩) n c) (hx : a.eval x = .slice B m d)
    (hown : w.ownsRow W 5 1 (.slice (some ⟨g, 0, none⟩) n c) n (by8 l)) (hl : news.length = m) (hr : Sl w B (by8 news)) (hroom : n + m ≤ c)
    (h : ∀ w', w'.ownsRow W 5 1 (.slice (some ⟨g, 0, none⟩) (n + m) c) (n + m) (by8 (l ++ news)) → Below W w w' → wpList Try.prog ops Q rest (a.put o.dst (.slice (some ⟨g, 0, none⟩) (n + m) c)) w') :
    wpList Try.prog ops Q (o :: rest) a w := by
  by_cases hm : 0 < m
  · exact wpList_fits hgd s x ho EF8 hs hx hown (news := by8 news) (by rw [by8_length]; omega) hm hr (by8_one _) hroom fun w' h1 h2 => h w' (by rw [by8_append]; exact h1) h2
  · obtain rfl : m = 0 := by omega
    have hn : news = [] := List.eq_nil_of_length_eq_zero hl
    subst hn
    refine wpList_plain hgd fun _ hK2 => ?_
    obtain ⟨i, z, hi, hz, hsize, hby, hzs⟩ := EF8.info
    have hsrc : Src Try.prog i.size 36 (.slice B 0 d) 0 [] w := by
      cases B with
      | none => exact Src.ofNil w EF8.und d
      | some a => exact Src.ofSlice w EF8.und a 0 d [] (by simp) (fun j u hu => by simp at hu) (fun u hu => by cases hu)
    have hrun := run_append_nothing w 36 36 o.type 5 i EF8.und hi (some ⟨g, 0, none⟩) n c (by omega) _ hsrc
    unfold Oper.wp execOp
    simp only [ho, resolve, invoke, builtin, Sem.run_bind, Sem.run_pure, Result.andThen_ok, List.map_toArray, List.map_cons, List.map_nil, hs, hx, hrun]
    exact hK2 _ _ (h w (by simpa using hown) (Below.refl _ _))
end
section
theorem fenc7_ok (f : Fr) (A : Option Addr) (c : Nat) (w : World) (hok : f.ok = true) (hs : Sl w A (by8 f.data)) (ho : Oct f.data) :
    Calls Try.prog 80 #[f.val A c] w fun e w' => ERes w.heap.size w' e (encF f) ∧ Below w.heap.size w w' := by
  obtain ⟨life, era, seq, part, parts, data⟩ := f
  unfold Fr.val
  simp only at hs ho ⊢
  have HIS := Lib.hid (fit7_any ⟨life, era, seq, part, parts, data⟩ A c (w.alloc (.cells #[.int .i64 life, .int .i64 era, .int .i64 seq, .int .i64 part, .int .i64 parts, .slice A data.length c] 130)))
  unfold Fr.val at HIS
  simp only at HIS
  have HBX := Lib.hid (fun V (hV : Below (w.heap.size + 1) (w.alloc (.cells #[.int .i64 life, .int .i64 era, .int .i64 seq, .int .i64 part, .int .i64 parts, .slice A data.length c] 130)) V) => box6 (V := V) (by rw [World.size_alloc]; exact hV))
  have hE : encF ⟨life, era, seq, part, parts, data⟩ = (sealed (Fr.body ⟨life, era, seq, part, parts, data⟩), 0) := if_pos hok
  have hbo := Fr.body_oct hok ho
  have h11 := (Fr.ok_iff _).1 hok
  simp only at h11
  obtain ⟨g0, g1, g2, g3, g4, g5, g6, g7, g8, g9, g10⟩ := h11
  rw [hok] at HIS
  have hbl := Fr.body_len (f := ⟨life, era, seq, part, parts, data⟩) g10
  obtain ⟨R, hR⟩ : ∃ R, Fr.body ⟨life, era, seq, part, parts, data⟩ = R := ⟨_, rfl⟩
  rw [hR] at hE hbo hbl
  have HR : Hid (bign 3 life.toNat ++ bign 3 era.toNat ++ bign 4 seq.toNat ++ bign 1 part.toNat ++ bign 1 parts.toNat ++ bign 1 data.length ++ data ++ List.replicate (80 - data.length) 0 = R) := Lib.hid (by
    rw [← hR]
    unfold Fr.body
    simp only
    rw [bign_one (by omega), bign_one (by omega), bign_one (by omega)]
    simp only [List.append_assoc, List.singleton_append, List.cons_append, List.nil_append])
  have HE := Lib.hid hE
  have HBO := Lib.hid hbo
  have HBL := Lib.hid hbl
  have HSV := Lib.hid (fun V (hV : Below (w.heap.size + 1) (w.alloc (.cells #[.int .i64 life, .int .i64 era, .int .i64 seq, .int .i64 part, .int .i64 parts, .slice A data.length c] 130)) V) => (hs.alloc (.cells #[.int .i64 life, .int .i64 era, .int .i64 seq, .int .i64 part, .int .i64 parts, .slice A data.length c] 130)).below (w' := V) (by rw [World.size_alloc]; exact hV))
  have HL1 := Lib.hid (show ((life.toNat : Nat) : Int) = life ∧ ((era.toNat : Nat) : Int) = era ∧ ((seq.toNat : Nat) : Int) = seq ∧ ((part.toNat : Nat) : Int) = part ∧ ((parts.toNat : Nat) : Int) = parts by omega)
  have HL2 := Lib.hid (show life.toNat < 9223372036854775808 ∧ era.toNat < 9223372036854775808 ∧ seq.toNat < 9223372036854775808 ∧ part.toNat < 9223372036854775808 ∧ parts.toNat < 9223372036854775808 ∧ data.length < 9223372036854775808 by omega)
  clear hE hbo hbl hok hs g0 g1 g2 g3 g4 g5 g6 g7 g8 g9 hR ho
  go_enter Try.func80, Try.ntmps80
  go_wp2_with fail
  refine HIS.out.mono ?_
  rintro e v1 ⟨rfl, hB⟩
  rw [World.size_alloc] at hB
  obtain ⟨y0, y1, y2, y3, y4, y5⟩ := HBX.out _ hB
  have hz := hB.size
  rw [World.size_alloc] at hz
  clear HIS
  go_wp2_with (first
    | (at_make; refine wpList_mk rfl (.const (.int .i64 0)) (.const (.int .i64 93)) rfl EF8 93 rfl rfl rfl (by omega) (by unfold maxLen; omega) hz ?_; intro x0 ownP hb0; have hB := hB.trans (hb0.mono hz); have hz0 : w.heap.size + 1 ≤ x0.heap.size := (by have := hb0.size; omega); obtain ⟨y0, y1, y2, y3, y4, y5⟩ := HBX.out _ hB)
    | fail)
  have hp := put7_fit (w.heap.size + 1) v1.heap.size 93 ([]) life.toNat 3 x0 (by decide) HL2.out.1 (by simp only [List.nil_append, List.length_append, bign_len, List.length_nil, List.length_cons, Nat.zero_add, Nat.reduceAdd]; decide) (by decide) hz0 (by simpa only [List.nil_append, List.length_append, bign_len, List.length_nil, List.length_cons, Nat.zero_add, Nat.reduceAdd, by8, List.map_nil] using ownP)
  rw [HL1.out.1] at hp
  simp only [List.nil_append, List.length_append, bign_len, List.length_nil, List.length_cons, Nat.zero_add, Nat.reduceAdd] at hp
  have HP := Lib.hid hp
  clear hp
  refine HP.out.mono ?_
  rintro e x1 ⟨rfl, ownP, hb⟩
  have hB := hB.trans hb
  have hz1 : w.heap.size + 1 ≤ x1.heap.size := by have := hb.size; omega
  obtain ⟨y0, y1, y2, y3, y4, y5⟩ := HBX.out _ hB
  clear HP hb
  go_wp2_with fail
  have hp := put7_fit (w.heap.size + 1) v1.heap.size 93 (bign 3 life.toNat) era.toNat 3 x1 (by decide) HL2.out.2.1 (by simp only [List.nil_append, List.length_append, bign_len, List.length_nil, List.length_cons, Nat.zero_add, Nat.reduceAdd]; decide) (by decide) hz1 (by simpa only [List.nil_append, List.length_append, bign_len, List.length_nil, List.length_cons, Nat.zero_add, Nat.reduceAdd, by8, List.map_nil] using ownP)
  rw [HL1.out.2.1] at hp
  simp only [List.nil_append, List.length_append, bign_len, List.length_nil, List.length_cons, Nat.zero_add, Nat.reduceAdd] at hp
  have HP := Lib.hid hp
  clear hp
  refine HP.out.mono ?_
  rintro e x2 ⟨rfl, ownP, hb⟩
  have hB := hB.trans hb
  have hz2 : w.heap.size + 1 ≤ x2.heap.size := by have := hb.size; omega
  obtain ⟨y0, y1, y2, y3, y4, y5⟩ := HBX.out _ hB
  clear HP hb
  go_wp2_with fail
  have hp := put7_fit (w.heap.size + 1) v1.heap.size 93 (bign 3 life.toNat ++ bign 3 era.toNat) seq.toNat 4 x2 (by decide) HL2.out.2.2.1 (by simp only [List.nil_append, List.length_append, bign_len, List.length_nil, List.length_cons, Nat.zero_add, Nat.reduceAdd]; decide) (by decide) hz2 (by simpa only [List.nil_append, List.length_append, bign_len, List.length_nil, List.length_cons, Nat.zero_add, Nat.reduceAdd, by8, List.map_nil] using ownP)
  rw [HL1.out.2.2.1] at hp
  simp only [List.nil_append, List.length_append, bign_len, List.length_nil, List.length_cons, Nat.zero_add, Nat.reduceAdd] at hp
  have HP := Lib.hid hp
  clear hp
  refine HP.out.mono ?_
  rintro e x3 ⟨rfl, ownP, hb⟩
  have hB := hB.trans hb
  have hz3 : w.heap.size + 1 ≤ x3.heap.size := by have := hb.size; omega
  obtain ⟨y0, y1, y2, y3, y4, y5⟩ := HBX.out _ hB
  clear HP hb
  go_wp2_with fail
  have hp := put7_fit (w.heap.size + 1) v1.heap.size 93 (bign 3 life.toNat ++ bign 3 era.toNat ++ bign 4 seq.toNat) part.toNat 1 x3 (by decide) HL2.out.2.2.2.1 (by simp only [List.nil_append, List.length_append, bign_len, List.length_nil, List.length_cons, Nat.zero_add, Nat.reduceAdd]; decide) (by decide) hz3 (by simpa only [List.nil_append, List.length_append, bign_len, List.length_nil, List.length_cons, Nat.zero_add, Nat.reduceAdd, by8, List.map_nil] using ownP)
  rw [HL1.out.2.2.2.1] at hp
  simp only [List.nil_append, List.length_append, bign_len, List.length_nil, List.length_cons, Nat.zero_add, Nat.reduceAdd] at hp
  have HP := Lib.hid hp
  clear hp
  refine HP.out.mono ?_
  rintro e x4 ⟨rfl, ownP, hb⟩
  have hB := hB.trans hb
  have hz4 : w.heap.size + 1 ≤ x4.heap.size := by have := hb.size; omega
  obtain ⟨y0, y1, y2, y3, y4, y5⟩ := HBX.out _ hB
  clear HP hb
  go_wp2_with fail
  have hp := put7_fit (w.heap.size + 1) v1.heap.size 93 (bign 3 life.toNat ++ bign 3 era.toNat ++ bign 4 seq.toNat ++ bign 1 part.toNat) parts.toNat 1 x4 (by decide) HL2.out.2.2.2.2.1 (by simp only [List.nil_append, List.length_append, bign_len, List.length_nil, List.length_cons, Nat.zero_add, Nat.reduceAdd]; decide) (by decide) hz4 (by simpa only [List.nil_append, List.length_append, bign_len, List.length_nil, List.length_cons, Nat.zero_add, Nat.reduceAdd, by8, List.map_nil] using ownP)
  rw [HL1.out.2.2.2.2] at hp
  simp only [List.nil_append, List.length_append, bign_len, List.length_nil, List.length_cons, Nat.zero_add, Nat.reduceAdd] at hp
  have HP := Lib.hid hp
  clear hp
  refine HP.out.mono ?_
  rintro e x5 ⟨rfl, ownP, hb⟩
  have hB := hB.trans hb
  have hz5 : w.heap.size + 1 ≤ x5.heap.size := by have := hb.size; omega
  obtain ⟨y0, y1, y2, y3, y4, y5⟩ := HBX.out _ hB
  clear HP hb
  go_wp2_with fail
  have hp := put7_fit (w.heap.size + 1) v1.heap.size 93 (bign 3 life.toNat ++ bign 3 era.toNat ++ bign 4 seq.toNat ++ bign 1 part.toNat ++ bign 1 parts.toNat) data.length 1 x5 (by decide) HL2.out.2.2.2.2.2 (by simp only [List.nil_append, List.length_append, bign_len, List.length_nil, List.length_cons, Nat.zero_add, Nat.reduceAdd]; decide) (by decide) hz5 (by simpa only [List.nil_append, List.length_append, bign_len, List.length_nil, List.length_cons, Nat.zero_add, Nat.reduceAdd, by8, List.map_nil] using ownP)
  simp only [List.nil_append, List.length_append, bign_len, List.length_nil, List.length_cons, Nat.zero_add, Nat.reduceAdd] at hp
  have HP := Lib.hid hp
  clear hp
  refine HP.out.mono ?_
  rintro e x6 ⟨rfl, ownP, hb⟩
  have hB := hB.trans hb
  have hz6 : w.heap.size + 1 ≤ x6.heap.size := by have := hb.size; omega
  obtain ⟨y0, y1, y2, y3, y4, y5⟩ := HBX.out _ hB
  clear HP hb
  obtain ⟨P, hP⟩ : ∃ P, bign 3 life.toNat ++ bign 3 era.toNat ++ bign 4 seq.toNat ++ bign 1 part.toNat ++ bign 1 parts.toNat ++ bign 1 data.length = P := ⟨_, rfl⟩
  rw [hP] at ownP HR
  clear hP
  have hsd := HSV.out _ hB
  obtain ⟨d, hd⟩ : ∃ d, data.length = d := ⟨_, rfl⟩
  have HD := Lib.hid hd
  rw [hd] at HR g10 y5 ⊢
  clear hd HL1 HL2 HBX
  have hK : (93 : Int) - (13 + (d : Int)) = ((80 - d : Nat) : Int) := by omega
  have HK := Lib.hid hK
  clear hK
  have hBw : Below w.heap.size w x6 := ((Below.refl _ w).alloc (Nat.le_refl _) _).trans (hB.mono (Nat.le_succ _))
  go_wp2_with (first
    | (at_builtin; refine wpList_fits0 rfl (.tmp 34) (.tmp 36) rfl rfl rfl ownP HD.out hsd (by omega) ?_; intro x7 own7 hb7)
    | (at_builtin; refine wpList_zr rfl (.tmp 38) (.tmp 41) rfl (k := 80 - d) rfl rfl (by have := HK.out; omega) own7 (by omega) (by decide) ?_; intro x8 own8 hb8)
    | fail)
  have hn93 : 13 + d + (80 - d) = 93 := by omega
  have hD2 : data.length = d := HD.out
  rw [HR.out] at own8
  rw [hn93] at own8 ⊢
  have hB8 : Below w.heap.size w x8 := (hBw.trans (hb7.mono (Nat.le_succ _))).trans (hb8.mono (Nat.le_succ _))
  have hz8 : w.heap.size ≤ x8.heap.size := hB8.size
  have hSE := seal_any (some ⟨v1.heap.size, 0, none⟩) 93 R x8 (by rw [HBL.out]; omega) (Sl.of_own own8) HBO.out
  rw [HBL.out] at hSE
  have HSE := Lib.hid hSE
  clear hSE hn93 own7 own8 ownP hb7 hb8 hB hBw y0 y1 y2 y3 y4 y5 hsd
  refine HSE.out.mono ?_
  rintro e w2 ⟨A3, c3, rfl, own3, hb⟩
  go_wp2_with fail
  go_ret2
  have hl96 : (sealed R).length = 93 + 3 := by rw [sealed_len, HBL.out]
  refine ⟨⟨A3, c3, ?_, ?_⟩, hB8.trans (hb.mono hz8)⟩
  · rw [HE.out]; simp only; rw [hl96]; rfl
  · rw [HE.out]; simp only; rw [hl96]; exact own_base own3 hz8
end
end Go.Proofs.Ytiggcpfmmgmncaa
