import Derived.Test.YtiggcpfmmgmncaaVp02
import Derived.Test.YtiggcpfmmgmncaaVp03
import Derived.Lib.AppendStr
set_option maxHeartbeats 16000000
set_option maxRecDepth 100000
set_option linter.unusedVariables false
set_option linter.unusedSimpArgs false
namespace Go.Proofs.Ytiggcpfmmgmncaa
open Go.ChangeShapes Go.WideShapes Go.ChangeAt Go.RowKit
section
theorem wpList_zeros8 {w : World} {ops : Array Oper} {rest : List Oper} {o : Oper} {a : Act} {Q : Exit → Act → World → Prop} (hg : o.guard = none) (l c : Operand) (hop : o.op = Op.makeSlice 36 l c)
    (n : Nat) {kl kc : IntKind} {L C : Int} (hl : a.eval l = .int kl L) (hc : a.eval c = .int kc C) (hL : L = (n : Int)) (hC : C = (n : Int)) (hn : n ≤ 1000000)
    {base : Nat} (b4 : base ≤ w.heap.size)
    (h : ∀ w', w'.ownsRow base 5 1 (.slice (some ⟨w.heap.size, 0, none⟩) n n) n (by8 (List.replicate n 0)) → Below w.heap.size w w' → wpList Try.prog ops Q rest (a.put o.dst (.slice (some ⟨w.heap.size, 0, none⟩) n n)) w') :
    wpList Try.prog ops Q (o :: rest) a w := by
  obtain ⟨i, hi, hz, hsize, hby⟩ := info_parts (show (Try.prog.info? 5).map (fun i => (i.zero, i.size, i.bytes)) = some (some (.int .u8 0), 1, 1) by kernel_rfl)
  refine wpList_make_full w hg l c _ hop base _ i _ 1 EF8.und hi hz hsize kl kc L C n hl hc hL hC (by rw [hby]; omega) (by unfold maxLen; omega) b4 fun w' h1 h2 => h w' ?_ (below_of_grown h2 (Nat.le_refl _) (by simp))
  have e : (madeCells (Value.int .u8 0).cells (n * 1)).toList = by8 (List.replicate n 0) := by
    apply List.ext_getElem
    · simp [by8, madeCells]
    · intro j h1 h2
      simp [by8, madeCells, Value.cells, Nat.mod_one]
  rwa [e] at h1
theorem own_set8 {w : World} {W b k n c : Nat} {l : List Nat} (h : w.ownsRow W 5 1 (.slice (some ⟨b, 0, none⟩) n c) n (by8 l)) (x : Nat) :
    (w.setCell ⟨b, k, none⟩ (.int .u8 (x : Int))).ownsRow W 5 1 (.slice (some ⟨b, 0, none⟩) n c) n (by8 (l.set k x)) := by
  obtain ⟨h1, h2⟩ := h
  refine ⟨by rw [by8_length] at h1 ⊢; rw [List.length_set]; exact h1, .inr ?_⟩
  rcases h2 with ⟨e, _⟩ | ⟨g, cap, cur, e, hbg, hg, hnc, hcm, hcs, ht⟩
  · cases e
  · injection e with e1 e2 e3
    injection e1 with e1
    injection e1 with e1
    subst e1; subst e3
    refine ⟨b, c, cur.set! k (.int .u8 (x : Int)), rfl, hbg, ?_, hnc, hcm, by simpa using hcs, ?_⟩
    · rw [setCell_eq_setRow w b k _ 5 (0, 0) _ hg]
      have := setRow_heap w b _ (cur.set! k (.int .u8 (x : Int))) 5 (0, 0) hg
      simpa using this
    · have e : (cur.set! k (.int .u8 (x : Int))).toList = cur.toList.set k (.int .u8 (x : Int)) := by simp
      rw [e, List.take_set, ht]
      unfold by8
      rw [by8_set]
theorem bign_drop {s n j : Nat} (h : j < s) : (bign s n).drop (s - (j + 1)) = n / 256 ^ j % 256 :: (bign s n).drop (s - j) := by
  have h1 : s - (j + 1) < (bign s n).length := by rw [bign_len]; omega
  rw [List.drop_eq_getElem_cons h1, bign_at, show s - 1 - (s - (j + 1)) = j by omega, show s - (j + 1) + 1 = s - j by omega]
theorem zeros_set (i x : Nat) (D : List Nat) : (List.replicate (i + 1) 0 ++ D).set i x = List.replicate i 0 ++ x :: D := by
  rw [List.replicate_succ', List.append_assoc]
  rw [List.set_append_right _ _ (by simp)]
  simp
theorem rnumber7_any (n s : Nat) (w : World) (hs : s ≤ 8) (hn : n < 9223372036854775808) :
    Calls Try.prog 87 #[.int .i64 n, .int .i64 s] w fun e w' => ∃ A' c', e = .returned (.slice A' (bign s n).length c') ∧ w'.ownsRow w.heap.size 5 1 (.slice A' (bign s n).length c') (bign s n).length (by8 (bign s n)) ∧ Below w.heap.size w w' := by
  rw [bign_len]
  have HD := Lib.hid (fun j (h : j < s) => bign_drop (n := n) h)
  have HL := Lib.hid (bign_len s n)
  obtain ⟨Y, hY⟩ : ∃ Y, bign s n = Y := ⟨_, rfl⟩
  rw [hY] at HD HL ⊢
  clear hY
  have hgs : (0 : Int) ≤ (s : Int) := by omega
  go_enter Try.func87, Try.ntmps87
  go_wp2_with (first
    | (at_make; refine wpList_zeros8 rfl (.tmp 7) (.tmp 7) rfl s rfl rfl rfl rfl (by omega) (Nat.le_refl _) ?_; intro w1 hown1 hb1)
    | fail)
  go_loopw [0, 6] (fun nv iv wr => ∃ (j : Nat) (z q : Int), j ≤ s ∧ nv = .int .i64 z ∧ z = ((n / 256 ^ j : Nat) : Int) ∧ iv = .int .i64 q ∧ q = ((s - j : Nat) : Int) ∧ wr.ownsRow w.heap.size 5 1 (.slice (some ⟨w.heap.size, 0, none⟩) s s) s (by8 (List.replicate (s - j) 0 ++ Y.drop (s - j))) ∧ Below w.heap.size w wr) (fun _ iv _ => (intOf iv).toNat)
  case atStart => exact ⟨0, n, s, by omega, rfl, by simp, rfl, rfl, by
    have e : Y.drop (s - 0) = [] := by apply List.eq_nil_of_length_eq_zero; rw [List.length_drop, HL.out]; omega
    rw [e, List.append_nil]; exact hown1, hb1⟩
  case round =>
    obtain ⟨j, z, q, hj, rfl, hz, rfl, hq, own2, hB⟩ := hrel
    by_cases hlt : j < s
    · have HE : Hid ((List.replicate (s - j) 0 ++ Y.drop (s - j)).set (s - (j + 1)) (n / 256 ^ j % 256) = List.replicate (s - (j + 1)) 0 ++ Y.drop (s - (j + 1))) := Lib.hid (by
        rw [HD.out j hlt, show s - j = (s - (j + 1)) + 1 by omega, zeros_set])
      obtain ⟨M, hM⟩ : ∃ M, n / 256 ^ j = M := ⟨_, rfl⟩
      have hMn : M ≤ n := by rw [← hM]; exact Nat.div_le_self n _
      have hM1 : n / 256 ^ (j + 1) = M / 256 := by rw [Nat.pow_succ, ← Nat.div_div_eq_div_mul, hM]
      rw [hM] at hz HE
      have hq0 : 0 < q := by omega
      have hqs : q ≤ (s : Int) := by omega
      have hq1 : 0 ≤ q - 1 := by omega
      have hq2 : q - 1 < (s : Int) := by omega
      have hz0 : 0 ≤ z := by omega
      have hz1 : z < 9223372036854775808 := by omega
      have ht1 : z.tdiv 256 = z / 256 := Int.tdiv_eq_ediv_of_nonneg hz0
      have ht2 : z.tmod 256 = z % 256 := Int.tmod_eq_emod_of_nonneg hz0
      have HZ : Hid (z % 256 = ((M % 256 : Nat) : Int)) := Lib.hid (by omega)
      have HZ2 : Hid (z / 256 = ((n / 256 ^ (j + 1) : Nat) : Int)) := Lib.hid (by rw [hM1]; omega)
      obtain ⟨J, hJ⟩ : ∃ J, s - (j + 1) = J := ⟨_, rfl⟩
      have hoff : (q - 1).toNat = J := by omega
      have HQ : Hid (q - 1 = ((s - (j + 1) : Nat) : Int)) := Lib.hid (by omega)
      rw [hJ] at HE
      have HJ := Lib.hid hJ
      obtain ⟨hgc, hgf⟩ : (∃ u, wr.cell? ⟨w.heap.size, J, none⟩ = some u) ∧ wr.frozen? ⟨w.heap.size, J, none⟩ = false := by
        rcases own2.2 with ⟨e, _⟩ | ⟨g1, cap, cur, e, _, h, hnc, _, hcs, _⟩
        · cases e
        · injection e with e e2 e3
          injection e with e
          injection e with e
          subst e; subst e3
          refine ⟨?_, by simp [World.frozen?, h]⟩
          rw [cell_of_row wr w.heap.size J cur 5 (0, 0) h]
          exact ⟨_, Array.getElem?_eq_getElem (by omega)⟩
      obtain ⟨cu, hgc⟩ := hgc
      have own3 := own_set8 (k := J) own2 (M % 256)
      rw [HE.out, ← HZ.out] at own3
      have hB3 : Below w.heap.size w (wr.setCell ⟨w.heap.size, J, none⟩ (.int .u8 (z % 256))) := Below.setCell hB (p := ⟨w.heap.size, J, none⟩) (Nat.le_refl _) _
      clear hz hq hJ hM hM1 hMn
      go_wp2_with fail
      go_roundw
      case rel => exact ⟨j + 1, z / 256, q - 1, by omega, rfl, HZ2.out, rfl, HQ.out, by rw [HJ.out]; exact own3, hB3⟩
      case measure => simp [intOf]; omega
    · obtain rfl : j = s := by omega
      have hq0 : ¬ 0 < q := by omega
      have e1 : List.replicate (j - j) 0 ++ Y.drop (j - j) = Y := by rw [Nat.sub_self]; simp
      rw [e1] at own2
      clear hz hq
      go_wp2_with fail
      go_ret
      exact ⟨_, _, rfl, own2, hB⟩
end
section
def encF (f : Fr) : List Nat × Int := if f.ok = true then (sealed f.body, 0) else ([], 2)
def ERes (B : Nat) (w' : World) (e : Ending) (R : List Nat × Int) : Prop := ∃ A' c', e = .returned (.tuple #[.slice A' R.1.length c', .int .i64 R.2]) ∧ w'.ownsRow B 5 1 (.slice A' R.1.length c') R.1.length (by8 R.1)
def slN : Value → Nat
  | .slice _ n _ => n
  | _ => 0
theorem sealed_len (l : List Nat) : (sealed l).length = l.length + 3 := by simp [sealed, three]
theorem box6 {w : World} {a0 a1 a2 a3 a4 a5 : Value} {t : TypeId} {V : World} (h : Below (w.alloc (.cells #[a0, a1, a2, a3, a4, a5] t)).heap.size (w.alloc (.cells #[a0, a1, a2, a3, a4, a5] t)) V) :
    V.cell? ⟨w.heap.size, 0, none⟩ = some a0 ∧ V.cell? ⟨w.heap.size, 1, none⟩ = some a1 ∧ V.cell? ⟨w.heap.size, 2, none⟩ = some a2 ∧ V.cell? ⟨w.heap.size, 3, none⟩ = some a3 ∧ V.cell? ⟨w.heap.size, 4, none⟩ = some a4 ∧ V.cell? ⟨w.heap.size, 5, none⟩ = some a5 := by
  have hl : w.heap.size < (w.alloc (.cells #[a0, a1, a2, a3, a4, a5] t)).heap.size := by rw [World.size_alloc]; omega
  have key : ∀ i, V.cell? ⟨w.heap.size, i, none⟩ = (#[a0, a1, a2, a3, a4, a5] : Array Value)[i]? := fun i => (h.cell (p := ⟨w.heap.size, i, none⟩) hl).trans (World.cell?_alloc_new w _ t i)
  exact ⟨key 0, key 1, key 2, key 3, key 4, key 5⟩
theorem bign1 {n : Nat} (h : n < 256) : bign 1 n = [n] := by simp [bign]; omega
theorem Oct.rep {n : Nat} : Oct (List.replicate n 0) := fun x hx => by
  rw [List.mem_replicate] at hx
  omega
theorem Fr.body_oct {f : Fr} (h : f.ok = true) (ho : Oct f.data) : Oct f.body := by
  have h := (Fr.ok_iff _).1 h
  unfold Fr.body
  refine (((((bign_oct _ _).app (bign_oct _ _)).app (bign_oct _ _)).app ?_).app ho).app Oct.rep
  intro x hx
  simp only [List.mem_cons, List.not_mem_nil, or_false] at hx
  omega
theorem renc7_any (f : Fr) (A : Option Addr) (c : Nat) (w : World) (hl : f.data.length ≤ 100000) (hs : Sl w A (by8 f.data)) (ho : Oct f.data) :
    Calls Try.prog 64 #[f.val A c] w fun e w' => ERes w.heap.size w' e (encF f) ∧ Below w.heap.size w w' := by
  obtain ⟨life, era, seq, part, parts, data⟩ := f
  unfold Fr.val
  simp only at hl hs ho ⊢
  have HIS := Lib.hid (ris7_any ⟨life, era, seq, part, parts, data⟩ A c (w.alloc (.cells #[.int .i64 life, .int .i64 era, .int .i64 seq, .int .i64 part, .int .i64 parts, .slice A data.length c] 111)))
  unfold Fr.val at HIS
  simp only at HIS
  have HBX := Lib.hid (fun V (hV : Below (w.heap.size + 1) (w.alloc (.cells #[.int .i64 life, .int .i64 era, .int .i64 seq, .int .i64 part, .int .i64 parts, .slice A data.length c] 111)) V) => box6 (V := V) (by rw [World.size_alloc]; exact hV))
  by_cases hok : Fr.ok ⟨life, era, seq, part, parts, data⟩ = true
  · have hE : encF ⟨life, era, seq, part, parts, data⟩ = (sealed (Fr.body ⟨life, era, seq, part, parts, data⟩), 0) := if_pos hok
    have hbo := Fr.body_oct hok ho
    have h11 := (Fr.ok_iff _).1 hok
    simp only at h11
    obtain ⟨g0, g1, g2, g3, g4, g5, g6, g7, g8, g9, g10⟩ := h11
    rw [hok] at HIS
    have hbl := Fr.body_len (f := ⟨life, era, seq, part, parts, data⟩) g10
    unfold Fr.body at hE hbo hbl
    simp only at hE hbo hbl
    have HE := Lib.hid hE
    have HBO := Lib.hid hbo
    have HBL := Lib.hid hbl
    have HN1 := Lib.hid (fun V => rnumber7_any life.toNat 3 V (by omega) (by omega))
    have HN2 := Lib.hid (fun V => rnumber7_any era.toNat 3 V (by omega) (by omega))
    have HN3 := Lib.hid (fun V => rnumber7_any seq.toNat 4 V (by omega) (by omega))
    rw [show ((life.toNat : Nat) : Int) = life by omega] at HN1
    rw [show ((era.toNat : Nat) : Int) = era by omega] at HN2
    rw [show ((seq.toNat : Nat) : Int) = seq by omega] at HN3
    have hw1 : IntKind.u8.wrap part = part := by rw [IntKind.wrap_u8']; omega
    have hw2 : IntKind.u8.wrap parts = parts := by rw [IntKind.wrap_u8']; omega
    have hw3 : IntKind.u8.wrap (data.length : Int) = (data.length : Int) := by rw [IntKind.wrap_u8']; omega
    have hp1 : part % 256 = part := by omega
    have hp2 : parts % 256 = parts := by omega
    have hp3 : (data.length : Int) % 256 = (data.length : Int) := by omega
    have HSV := Lib.hid (fun V (hV : Below (w.heap.size + 1) (w.alloc (.cells #[.int .i64 life, .int .i64 era, .int .i64 seq, .int .i64 part, .int .i64 parts, .slice A data.length c] 111)) V) => (hs.alloc (.cells #[.int .i64 life, .int .i64 era, .int .i64 seq, .int .i64 part, .int .i64 parts, .slice A data.length c] 111)).below (w' := V) (by rw [World.size_alloc]; exact hV))
    have H3 : Hid (by8 [part.toNat, parts.toNat, data.length] = [.int .u8 part, .int .u8 parts, .int .u8 (data.length : Int)]) := Lib.hid (by simp only [by8, List.map_cons, List.map_nil]; rw [show ((part.toNat : Nat) : Int) = part by omega, show ((parts.toNat : Nat) : Int) = parts by omega])
    clear hE hbo hbl hok hs g0 g1 g2 g3 g4 g5
    go_enter Try.func64, Try.ntmps64
    go_wp2_with fail
    refine HIS.out.mono ?_
    rintro e v1 ⟨rfl, hB⟩
    rw [World.size_alloc] at hB
    obtain ⟨y0, y1, y2, y3, y4, y5⟩ := HBX.out _ hB
    have hz := hB.size
    rw [World.size_alloc] at hz
    have ownP : v1.ownsRow (w.heap.size + 1) 5 1 (.slice none 0 0) 0 [] := own_nil _ _ _
    go_wp2_with fail
    refine (HN1.out _).mono ?_
    rintro e v2 ⟨Aq1, cq1, rfl, ownq1, hb⟩
    rw [bign_len] at ownq1
    have ownP := own_below ownP hb
    have hB := hB.trans (hb.mono hz)
    have hz : w.heap.size + 1 ≤ v2.heap.size := by have := hb.size; omega
    have slq1 := Sl.of_own ownq1
    obtain ⟨y0, y1, y2, y3, y4, y5⟩ := HBX.out _ hB
    clear hb ownq1
    try rw [bign_len]
    go_wp2_with (first
      | (at_builtin; refine wpList_app rfl (.tmp 8) (.tmp 11) rfl EF8 rfl rfl ownP (m := 3) (news := by8 (bign 3 life.toNat)) (by simp [by8_length, bign_len]) slq1 (by8_one _) (by unfold maxLen; omega) (by omega) hz ?_; intro A2 c2 x2 ownP2 hg2 hb2; simp only [Nat.zero_add, List.nil_append, ← by8_append, Nat.reduceAdd] at ownP2; have hB2 := hB.trans hb2; have hz2 : w.heap.size + 1 ≤ x2.heap.size := (by have := hb2.size; (try simp only [World.size_alloc] at this); omega); obtain ⟨y0, y1, y2, y3, y4, y5⟩ := HBX.out _ hB2)
      | fail)
    have ownP := ownP2
    have hB := hB2
    have hz := hz2
    clear ownP2 hB2 hz2 hg2 hb2
    refine (HN2.out _).mono ?_
    rintro e v3 ⟨Aq2, cq2, rfl, ownq2, hb⟩
    rw [bign_len] at ownq2
    have ownP := own_below ownP hb
    have hB := hB.trans (hb.mono hz)
    have hz : w.heap.size + 1 ≤ v3.heap.size := by have := hb.size; omega
    have slq2 := Sl.of_own ownq2
    obtain ⟨y0, y1, y2, y3, y4, y5⟩ := HBX.out _ hB
    clear hb ownq2
    try rw [bign_len]
    go_wp2_with (first
      | (at_builtin; refine wpList_app rfl (.tmp 13) (.tmp 16) rfl EF8 rfl rfl ownP (m := 3) (news := by8 (bign 3 era.toNat)) (by simp [by8_length, bign_len]) slq2 (by8_one _) (by unfold maxLen; omega) (by omega) hz ?_; intro A3 c3 x3 ownP3 hg3 hb3; simp only [Nat.zero_add, List.nil_append, ← by8_append, Nat.reduceAdd] at ownP3; have hB3 := hB.trans hb3; have hz3 : w.heap.size + 1 ≤ x3.heap.size := (by have := hb3.size; (try simp only [World.size_alloc] at this); omega); obtain ⟨y0, y1, y2, y3, y4, y5⟩ := HBX.out _ hB3)
      | fail)
    have ownP := ownP3
    have hB := hB3
    have hz := hz3
    clear ownP3 hB3 hz3 hg3 hb3
    refine (HN3.out _).mono ?_
    rintro e v4 ⟨Aq3, cq3, rfl, ownq3, hb⟩
    rw [bign_len] at ownq3
    have ownP := own_below ownP hb
    have hB := hB.trans (hb.mono hz)
    have hz : w.heap.size + 1 ≤ v4.heap.size := by have := hb.size; omega
    have slq3 := Sl.of_own ownq3
    obtain ⟨y0, y1, y2, y3, y4, y5⟩ := HBX.out _ hB
    clear hb ownq3
    try rw [bign_len]
    go_wp2_with (first
      | (at_builtin; refine wpList_app rfl (.tmp 18) (.tmp 21) rfl EF8 rfl rfl ownP (m := 4) (news := by8 (bign 4 seq.toNat)) (by simp [by8_length, bign_len]) slq3 (by8_one _) (by unfold maxLen; omega) (by omega) hz ?_; intro A4 c4 x4 ownP4 hg4 hb4; simp only [Nat.zero_add, List.nil_append, ← by8_append, Nat.reduceAdd] at ownP4; have hB4 := hB.trans hb4; have hz4 : w.heap.size + 1 ≤ x4.heap.size := (by have := hb4.size; (try simp only [World.size_alloc] at this); omega); obtain ⟨y0, y1, y2, y3, y4, y5⟩ := HBX.out _ hB4)
      | (at_builtin; refine wpList_app rfl (.tmp 23) (.tmp 34) rfl EF8 rfl rfl (ownP4.alloc _) (m := 3) (news := by8 [part.toNat, parts.toNat, data.length]) (by simp [by8_length, bign_len]) (by rw [H3.out]; exact Sl.new_ _ _ _) (by8_one _) (by unfold maxLen; omega) (by omega) (by simp only [World.size_alloc]; omega) ?_; intro A5 c5 x5 ownP5 hg5 hb5; simp only [Nat.zero_add, List.nil_append, ← by8_append, Nat.reduceAdd] at ownP5; have hB5 := (hB4.alloc hz4 _).trans hb5; have hz5 : w.heap.size + 1 ≤ x5.heap.size := (by have := hb5.size; (try simp only [World.size_alloc] at this); omega); obtain ⟨y0, y1, y2, y3, y4, y5⟩ := HBX.out _ hB5)
      | (at_builtin; refine wpList_app rfl (.tmp 36) (.tmp 38) rfl EF8 rfl rfl ownP5 (m := data.length) (news := by8 data) (by simp [by8_length, bign_len]) (HSV.out _ hB5) (by8_one _) (by unfold maxLen; omega) (by omega) hz5 ?_; intro A6 c6 x6 ownP6 hg6 hb6; simp only [Nat.zero_add, List.nil_append, ← by8_append, Nat.reduceAdd] at ownP6; have hB6 := hB5.trans hb6; have hz6 : w.heap.size + 1 ≤ x6.heap.size := (by have := hb6.size; (try simp only [World.size_alloc] at this); omega); obtain ⟨y0, y1, y2, y3, y4, y5⟩ := HBX.out _ hB6)
      | fail)
    have ownP := ownP6
    have hB := hB6
    have hz := hz6
    clear ownP6 hB6 hz6 hg6 hb6 ownP5 hB5 hz5 hg5 hb5 ownP4 hB4 hz4 hg4 hb4 slq1 slq2 slq3 y0 y1 y2 y3 y4 y5
    obtain ⟨X, hX⟩ : ∃ X, bign 3 life.toNat ++ bign 3 era.toNat ++ bign 4 seq.toNat ++ [part.toNat, parts.toNat, data.length] ++ data = X := ⟨_, rfl⟩
    rw [hX] at ownP HE HBO HBL
    obtain ⟨d, hd⟩ : ∃ d, data.length = d := ⟨_, rfl⟩
    rw [hd] at ownP HE HBO HBL g10 ⊢
    clear hX hw1 hw2 hw3 hp1 hp2 hp3 H3 HSV HBX HN1 HN2 HN3 HIS g6 g7 g8 g9
    have hBw : Below w.heap.size w x6 := ((Below.refl _ w).alloc (Nat.le_refl _) _).trans (hB.mono (Nat.le_succ _))
    clear hB
    go_loopw [4] (fun bv wr => ∃ (j : Nat) (A2 : Option Addr) (c2 : Nat), 13 + d + j ≤ 93 ∧ bv = .slice A2 (13 + d + j) c2 ∧ wr.ownsRow (w.heap.size + 1) 5 1 (.slice A2 (13 + d + j) c2) (13 + d + j) (by8 (X ++ List.replicate j 0)) ∧ Below w.heap.size w wr ∧ w.heap.size + 1 ≤ wr.heap.size) (fun bv _ => 93 - slN bv)
    case atStart => exact ⟨0, A6, c6, by omega, rfl, by simpa using ownP, hBw, hz⟩
    case round =>
      obtain ⟨j, A2, c2, hj, rfl, own2, hB, hz2⟩ := hrel
      clear ownP hBw
      by_cases hlt : 13 + d + j < 93
      · have hlk : ((13 + d + j : Nat) : Int) < 93 := by omega
        obtain ⟨N, hN⟩ : ∃ N, 13 + d + j = N := ⟨_, rfl⟩
        rw [hN] at own2 hlk ⊢
        have HN := Lib.hid hN
        have hN93 : N < 93 := by omega
        clear hN
        go_wp2_with (first
          | (at_builtin; refine wpList_app rfl (.tmp 43) (.tmp 44) rfl EF8 rfl rfl (own2.alloc _) (m := 1) (news := [.int .u8 0]) rfl (Sl.new_ _ _ _) (fun u hu => by simp only [List.mem_cons, List.not_mem_nil, or_false] at hu; subst hu; rfl) (by unfold maxLen; omega) (by omega) (by simp only [World.size_alloc]; omega) ?_; intro A3 c3 w3 own3 hg3 hb3)
          | fail)
        have hB3 := (hB.alloc (by omega) (.cells #[.int .u8 0] 5)).trans (hb3.mono (Nat.le_succ _))
        have hz3 : w.heap.size + 1 ≤ w3.heap.size := by have := hb3.size; rw [World.size_alloc] at this; omega
        have HX : Hid (by8 (X ++ List.replicate j 0) ++ [.int .u8 0] = by8 (X ++ List.replicate (j + 1) 0)) := Lib.hid (by rw [List.replicate_succ', ← List.append_assoc, by8_append _ [0]]; rfl)
        rw [HX.out] at own3
        go_roundw
        case rel => exact ⟨j + 1, A3, c3, by have := HN.out; omega, by rw [← HN.out]; rfl, by rw [← HN.out] at own3; exact own3, hB3, hz3⟩
        case measure => simp [slN]; omega
      · have hjd : j = 80 - d := by omega
        subst hjd
        have hn93 : 13 + d + (80 - d) = 93 := by omega
        rw [hn93] at own2 ⊢
        have hlk : ¬ ((93 : Nat) : Int) < 93 := by omega
        have hSE := refSeal_any A2 c2 (X ++ List.replicate (80 - d) 0) wr (by rw [HBL.out]; omega) (Sl.of_own own2) HBO.out
        rw [HBL.out] at hSE
        have HSE := Lib.hid hSE
        clear hSE hlk hn93 hlt
        go_wp2_with fail
        refine HSE.out.mono ?_
        rintro e w2 ⟨A3, c3, rfl, own3, hb⟩
        go_wp2_with fail
        go_ret2
        have hl96 : (sealed (X ++ List.replicate (80 - d) 0)).length = 93 + 3 := by rw [sealed_len, HBL.out]
        refine ⟨⟨A3, c3, ?_, ?_⟩, hB.trans (hb.mono (by omega))⟩
        · rw [HE.out]; simp only; rw [hl96]; rfl
        · rw [HE.out]; simp only; rw [hl96]; exact own_base own3 (by omega)
  · have hE : encF ⟨life, era, seq, part, parts, data⟩ = ([], 2) := if_neg hok
    have HE := Lib.hid hE
    have hok2 : Fr.ok ⟨life, era, seq, part, parts, data⟩ = false := by simpa using hok
    rw [hok2] at HIS
    clear hE hok hok2 HBX hs ho
    go_enter Try.func64, Try.ntmps64
    go_wp2_with fail
    refine HIS.out.mono ?_
    rintro e v1 ⟨rfl, hB⟩
    have hB2 := ((Below.refl _ w).alloc (Nat.le_refl _) _).trans (hB.mono (by rw [World.size_alloc]; omega))
    go_wp2_with fail
    go_ret2
    refine ⟨⟨none, 0, ?_, ?_⟩, hB2⟩
    · rw [HE.out]; rfl
    · rw [HE.out]; exact own_nil _ _ _
end
section
def blankF (l : List Nat) : Bool := l.all (· == 0)
theorem blankF_true {l : List Nat} (h : ∀ j, (hj : j < l.length) → l[j] = 0) : blankF l = true := by
  unfold blankF
  rw [List.all_eq_true]
  intro x hx
  obtain ⟨j, hj, rfl⟩ := List.getElem_of_mem hx
  simpa using h j hj
theorem blankF_false {l : List Nat} {j : Nat} (hj : j < l.length) (h : l[j] ≠ 0) : blankF l = false := by
  unfold blankF
  rw [List.all_eq_false]
  exact ⟨l[j], List.getElem_mem hj, by simpa using h⟩
theorem nz7_any (z : Int) (w : World) : Calls Try.prog 105 #[.int .u8 z] w fun e w' => e = .returned (.bool (z != 0)) ∧ Below w.heap.size w w' := by
  go_enter Try.func105, Try.ntmps105
  go_wp2_with fail
  go_ret
  exact ⟨rfl, Below.refl _ _⟩
theorem index7_any (A : Option Addr) (cap : Nat) (l : List Nat) (w : World) (hl : l.length ≤ 1000000) (hs : Sl w A (by8 l)) :
    Calls Try.prog 107 #[.slice A l.length cap, .func (.func 105) #[] #[]] w fun e w' => ∃ z : Int, e = .returned (.int .i64 z) ∧ (blankF l = true → z = -1) ∧ (blankF l = false → 0 ≤ z) ∧ Below w.heap.size w w' := by
  have HA := Lib.hid (fun V => fun z => nz7_any z V)
  go_enter Try.func107, Try.ntmps107
  go_wp2
  go_loopw [8] (fun i wr => ∃ k : Nat, k ≤ l.length ∧ i = .int .i64 k ∧ (∀ j, (hj : j < l.length) → j < k → l[j] = 0) ∧ Below w.heap.size w wr) (fun i _ => l.length - (intOf i).toNat)
  case atStart => exact ⟨0, by omega, rfl, fun j hj h => absurd h (by omega), Below.refl _ _⟩
  case round =>
    obtain ⟨k, hk, rfl, hno, hB⟩ := hrel
    by_cases hlt2 : k < l.length
    · obtain ⟨b, o, rfl, hg⟩ := (hs.below hB).byte hlt2
      have hlk : (k : Int) < (l.length : Int) := by omega
      have hgk : (0 : Int) ≤ (k : Int) := by omega
      have HNO := Lib.hid hno
      obtain ⟨y, hy⟩ : ∃ y : Int, ((l[k] : Nat) : Int) = y := ⟨_, rfl⟩
      rw [hy] at hg
      have HY := Lib.hid hy
      clear hno hy
      by_cases hq : y = 0
      · have hq2 : (y != 0) = false := by simpa using hq
        have HQ := Lib.hid hq2
        have HQ0 := Lib.hid hq
        clear hq hq2
        go_wp2_with (first | (go_at_call 105; refine ((HA.out _ _)).mono ?_; rintro e w1 ⟨rfl, hb1⟩; have hB1 := since_step hB hb1; clear hb1; rw [HQ.out]))
        go_roundw
        case rel =>
          refine ⟨k + 1, by omega, by go_num, fun j hj hjk => ?_, hB1⟩
          rcases Nat.lt_or_ge j k with h | h
          · exact HNO.out j hj h
          · obtain rfl : j = k := by omega
            have := HY.out
            have := HQ0.out
            omega
        case measure => simp [intOf]; omega
      · have hq2 : (y != 0) = true := by simpa using hq
        have HQ := Lib.hid hq2
        have HQ0 := Lib.hid hq
        clear hq hq2
        go_wp2_with (first | (go_at_call 105; refine ((HA.out _ _)).mono ?_; rintro e w1 ⟨rfl, hb1⟩; have hB1 := since_step hB hb1; clear hb1; rw [HQ.out]))
        go_ret
        have hbf := blankF_false hlt2 (fun e => HQ0.out (by have := HY.out; omega))
        exact ⟨(k : Int), rfl, fun h => (by rw [hbf] at h; cases h), fun _ => hgk, hB1⟩
    · obtain rfl : k = l.length := by omega
      have hbf := blankF_true fun j hj => hno j hj hj
      have HBF := Lib.hid hbf
      clear hbf hno
      go_wp2_with fail
      go_ret
      exact ⟨-1, rfl, fun _ => rfl, fun h => (by rw [HBF.out] at h; cases h), hB⟩
theorem contains7_any (A : Option Addr) (cap : Nat) (l : List Nat) (w : World) (hl : l.length ≤ 1000000) (hs : Sl w A (by8 l)) :
    Calls Try.prog 104 #[.slice A l.length cap, .func (.func 105) #[] #[]] w fun e w' => e = .returned (.bool (!blankF l)) ∧ Below w.heap.size w w' := by
  have HX := Lib.hid (index7_any A cap l w hl hs)
  generalize l.length = n at *
  go_enter Try.func104, Try.ntmps104
  go_wp2_with fail
  refine HX.out.mono ?_
  rintro e w1 ⟨z, rfl, h1, h2, hb⟩
  cases hbf : blankF l with
  | true =>
    obtain rfl := h1 hbf
    go_wp2_with fail
    go_ret
    exact ⟨by rw [hbf]; rfl, hb⟩
  | false =>
    have h3 := h2 hbf
    go_wp2_with fail
    go_ret
    exact ⟨by rw [hbf]; rfl, hb⟩
theorem blank7_any (A : Option Addr) (cap : Nat) (l : List Nat) (w : World) (hl : l.length ≤ 1000000) (hs : Sl w A (by8 l)) :
    Calls Try.prog 99 #[.slice A l.length cap] w fun e w' => e = .returned (.bool (blankF l)) ∧ Below w.heap.size w w' := by
  have HX := Lib.hid (contains7_any A cap l w hl hs)
  generalize l.length = n at *
  generalize blankF l = b at *
  go_enter Try.func99, Try.ntmps99
  go_wp2_with fail
  refine HX.out.mono ?_
  rintro e w1 ⟨rfl, hb⟩
  cases b with
  | true =>
    go_wp2_with fail
    go_ret
    exact ⟨rfl, hb⟩
  | false =>
    go_wp2_with fail
    go_ret
    exact ⟨rfl, hb⟩
end
section
theorem zeroCells8 (k : Nat) : (Builtin.zeroCells #[Value.int .u8 0] k).toList = by8 (List.replicate k 0) := by
  apply List.ext_getElem
  · have := zeroCells_size #[Value.int .u8 0] k (by decide)
    simp [by8, this]
  · intro j h1 h2
    simp [Builtin.zeroCells, by8, Nat.mod_one]
theorem run_zeros_room {w : World} (ty : TypeId) {W g n c k : Nat} {l : List Nat} (hown : w.ownsRow W 5 1 (.slice (some ⟨g, 0, none⟩) n c) n (by8 l)) (hk : 0 < k) (hroom : n + k ≤ c) (hc : c ≤ 1000000) :
    ∃ w', (Builtin.append_ #[36, 3] ty #[.slice (some ⟨g, 0, none⟩) n c, .int .i64 k]).run Try.prog w = .ok (.slice (some ⟨g, 0, none⟩) (n + k) c) w' ∧
      w'.ownsRow W 5 1 (.slice (some ⟨g, 0, none⟩) (n + k) c) (n + k) (by8 (l ++ List.replicate k 0)) ∧ w.grownBy w' (some g) := by
  obtain ⟨i, hi, hz, hsize, hby⟩ := info_parts (show (Try.prog.info? 5).map (fun i => (i.zero, i.size, i.bytes)) = some (some (.int .u8 0), 1, 1) by kernel_rfl)
  have htn : Try.prog.underlying 3 = some (.int .i64) := by kernel_rfl
  rcases hown.2 with ⟨h, _⟩ | ⟨g', cap', cur, h, hbg, hg, hnc, hcm, hcs, htake⟩
  · simp at h
  · simp only [Value.slice.injEq, Option.some.injEq, Addr.mk.injEq, and_true, true_and] at h
    obtain ⟨rfl, rfl⟩ := h
    have hl : l.length = n := by have := hown.1; rw [by8_length] at this; omega
    have hfit : n + (by8 (List.replicate k 0)).length ≤ cur.size := by rw [by8_length, List.length_replicate, hcs]; omega
    have hst := run_storeCells_at Try.prog g n 5 (by8 (List.replicate k 0)) 0 cur w hg (by simpa using hfit) (by8_one _)
    simp only [Nat.add_zero, by8_length, List.length_replicate] at hst
    have hw : IntKind.i64.wrap (k : Int) = k := IntWalk.i64_in _ (by omega)
    have hneg : ¬ ((k : Int) < 0) := by omega
    have hz8 : Builtin.zeroCells #[Value.int .u8 0] k = (by8 (List.replicate k 0)).toArray := by rw [← zeroCells8]
    have hk0 : k ≠ 0 := by omega
    have hbig : ¬ ((281474976710656 : Int) < (k : Int)) := by omega
    have hr : (Builtin.append_ #[36, 3] ty #[.slice (some ⟨g, 0, none⟩) n c, .int .i64 k]).run Try.prog w = .ok (.slice (some ⟨g, 0, none⟩) (n + k) c) (w.setRow g (cur.toList.take n ++ by8 (List.replicate k 0) ++ cur.toList.drop (n + k)).toArray) := by
      simp [Builtin.append_, run_underlying EF8.und, run_underlying htn, sizeOf, typeInfo, zeroValue, hi, hz, hsize, hby, asInt, asIntOf, hw, hroom, hneg, hk0, hbig, Addr.add_lit, hz8, hst, Value.cells]
    refine ⟨_, hr, ⟨by simp [by8_length, hl], .inr ⟨g, c, _, rfl, hbg, setRow_heap w g cur _ _ _ hg, hroom, hcm, ?_, ?_⟩⟩, ⟨rfl, rfl, rfl, by simp, fun q _ hq => setRow_other w g q _ (fun e => hq (by simp [e]))⟩⟩
    · simp only [List.size_toArray, List.length_append, List.length_take, List.length_drop, Array.length_toList, by8_length, List.length_replicate]
      omega
    · rw [Nat.mul_one] at htake ⊢
      rw [htake, by8_append]
      have e : n + k = (by8 l ++ by8 (List.replicate k 0)).length := by rw [List.length_append, by8_length, by8_length, List.length_replicate, hl]
      rw [e]
      exact List.take_left
end
end Go.Proofs.Ytiggcpfmmgmncaa
