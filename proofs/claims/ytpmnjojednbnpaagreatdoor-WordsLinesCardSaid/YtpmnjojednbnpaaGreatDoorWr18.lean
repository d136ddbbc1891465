import Derived.Test.YtpmnjojednbnpaaGreatDoorWr08
section
namespace Go.Proofs.YtpmnjojednbnpaaGreatDoor
open Go.ChangeShapes Go.WideShapes Go.ChangeAt Go.RowKit
set_option linter.unusedVariables false
set_option linter.unusedSimpArgs false

structure Db where
  a : Int
  b : Int
  c : Int
  d : Int
  q : Int
def Db.cells (x : Db) : List Value := [.int .i64 x.a, .int .i64 x.b, .int .i64 x.c, .int .i64 x.d, .int .i64 x.q]
def Db.in64 (x : Db) : Prop := In64p x.a ∧ In64p x.b ∧ In64p x.c ∧ In64p x.d ∧ In64p x.q
structure Lo where
  a : Int
  b : Int
  q : Int
def Lo.cells (x : Lo) : List Value := [.int .i64 x.a, .int .i64 x.b, .int .i64 x.q]
def Lo.in64 (x : Lo) : Prop := In64p x.a ∧ In64p x.b ∧ In64p x.q
structure Rn where
  a : Int
  b : Int
  q : Int
  A : Option Addr
  c : Nat
  lots : List Lo
def Rn.cells (x : Rn) : List Value := [.int .i64 x.a, .int .i64 x.b, .int .i64 x.q, .slice x.A x.lots.length x.c]
structure Rn.ok (w : World) (x : Rn) : Prop where
  ia : In64p x.a
  ib : In64p x.b
  iq : In64p x.q
  ll : x.lots.length ≤ 100
  il : ∀ y ∈ x.lots, y.in64
  sl : Sl w x.A (rc Lo.cells x.lots)
theorem Rn.ok.below {w w' : World} {x : Rn} (h : x.ok w) (hb : Below w.heap.size w w') : x.ok w' := ⟨h.ia, h.ib, h.iq, h.ll, h.il, h.sl.below hb⟩
def okW8 : List UInt8 := [111, 107]
def errW8 : List UInt8 := [101, 114, 114, 111, 114]
def headW (er : Int) : List (List UInt8) := if er = 0 then [okW8] else [errW8, Lib.itoa er]
def dbW (x : Db) : List (List UInt8) := [[100, 101, 98, 105, 116], unitB x.a x.b, unitB x.c x.d, Lib.itoa x.q]
def loW (x : Lo) : List (List UInt8) := [[108, 111, 116], Lib.itoa x.a, Lib.itoa x.b, Lib.itoa x.q]
def rnH (x : Rn) : List (List UInt8) := [[114, 101, 116, 117, 114, 110], unitB x.a x.b, Lib.itoa x.q]
def rnW (x : Rn) : List (List UInt8) := rnH x ++ x.lots.flatMap loW
def replyW (er : Int) (nums : List Int) (debs : List Db) (rets : List Rn) : List (List UInt8) := headW er ++ nums.map Lib.itoa ++ debs.flatMap dbW ++ rets.flatMap rnW
def replyB (er : Int) (nums : List Int) (debs : List Db) (rets : List Rn) : List UInt8 := Lib.join (replyW er nums debs rets) [32]
def Lw (n : Nat) (L : List (List UInt8)) : Prop := L.length ≤ n ∧ ∀ x ∈ L, x.length ≤ 44
theorem Lw.app {n m : Nat} {L M : List (List UInt8)} (h : Lw n L) (k : Lw m M) : Lw (n + m) (L ++ M) := ⟨by rw [List.length_append]; exact Nat.add_le_add h.1 k.1, fun x hx => (List.mem_append.1 hx).elim (h.2 x) (k.2 x)⟩
theorem Lw.up {n m : Nat} {L : List (List UInt8)} (h : Lw n L) (hm : n ≤ m) : Lw m L := ⟨Nat.le_trans h.1 hm, h.2⟩
theorem Lw.flat {α : Type} {n : Nat} {f : α → List (List UInt8)} : ∀ {l : List α}, (∀ x ∈ l, Lw n (f x)) → Lw (n * l.length) (l.flatMap f)
  | [], _ => ⟨by simp, fun x hx => by cases hx⟩
  | x :: r, h => by
    rw [List.flatMap_cons, List.length_cons, Nat.mul_add, Nat.mul_one, Nat.add_comm]
    exact (h x (by simp)).app (Lw.flat fun y hy => h y (by simp [hy]))
theorem unitB_len {a b : Int} (ha : In64p a) (hb : In64p b) : (unitB a b).length ≤ 43 := by
  have h1 := itoa_len a ha
  have h2 := itoa_len b hb
  unfold unitB
  rw [List.length_append, List.length_cons]
  omega
theorem headW_lw {er : Int} (h : In64p er) : Lw 2 (headW er) := by
  have h1 := itoa_len er h
  unfold headW
  split
  · exact ⟨by decide, fun x hx => by rw [List.mem_singleton.1 hx]; decide⟩
  · refine ⟨by simp, fun x hx => ?_⟩
    rcases List.mem_cons.1 hx with rfl | hx
    · decide
    · rw [List.mem_singleton.1 hx]; omega
theorem nums_lw {nums : List Int} (h : ∀ x ∈ nums, In64p x) : Lw nums.length (nums.map Lib.itoa) := ⟨by simp, fun x hx => by
  obtain ⟨n, hn, rfl⟩ := List.mem_map.1 hx
  have := itoa_len n (h n hn)
  omega⟩
theorem dbW_lw {x : Db} (h : x.in64) : Lw 4 (dbW x) := by
  obtain ⟨ha, hb, hc, hd, hq⟩ := h
  have h1 := unitB_len ha hb
  have h2 := unitB_len hc hd
  have h3 := itoa_len _ hq
  refine ⟨by simp [dbW], fun y hy => ?_⟩
  simp only [dbW, List.mem_cons, List.not_mem_nil, or_false] at hy
  rcases hy with rfl | rfl | rfl | rfl
  · decide
  · omega
  · omega
  · omega
theorem loW_lw {x : Lo} (h : x.in64) : Lw 4 (loW x) := by
  obtain ⟨ha, hb, hq⟩ := h
  have h1 := itoa_len _ ha
  have h2 := itoa_len _ hb
  have h3 := itoa_len _ hq
  refine ⟨by simp [loW], fun y hy => ?_⟩
  simp only [loW, List.mem_cons, List.not_mem_nil, or_false] at hy
  rcases hy with rfl | rfl | rfl | rfl
  · decide
  · omega
  · omega
  · omega
theorem rnH_lw {w : World} {x : Rn} (h : x.ok w) : Lw 3 (rnH x) := by
  have h1 := unitB_len h.ia h.ib
  have h3 := itoa_len _ h.iq
  refine ⟨by simp [rnH], fun y hy => ?_⟩
  simp only [rnH, List.mem_cons, List.not_mem_nil, or_false] at hy
  rcases hy with rfl | rfl | rfl
  · decide
  · omega
  · omega
theorem lots_lw {l : List Lo} (h : ∀ y ∈ l, y.in64) (hl : l.length ≤ 100) : Lw 400 (l.flatMap loW) := (Lw.flat fun y hy => loW_lw (h y hy)).up (by omega)
theorem rnW_lw {w : World} {x : Rn} (h : x.ok w) : Lw 403 (rnW x) := (rnH_lw h).app (lots_lw h.il h.ll)
theorem take_lw {α : Type} {n m : Nat} {f : α → List (List UInt8)} {l : List α} (h : ∀ x ∈ l, Lw n (f x)) (hl : l.length ≤ m) (k : Nat) : ((l.take k).flatMap f).length ≤ n * m := by
  have h1 := (Lw.flat (n := n) (f := f) (l := l.take k) fun x hx => h x (List.mem_of_mem_take hx)).1
  have h2 : n * (l.take k).length ≤ n * m := Nat.mul_le_mul_left _ (by rw [List.length_take]; omega)
  omega
theorem replyW_lw {er : Int} {nums : List Int} {debs : List Db} {rets : List Rn} {w : World} (he : In64p er) (h1 : ∀ x ∈ nums, In64p x) (h2 : ∀ x ∈ debs, x.in64) (h3 : ∀ x ∈ rets, x.ok w) (hn : nums.length ≤ 100) (hd : debs.length ≤ 100) (hr : rets.length ≤ 100) : Lw 50000 (replyW er nums debs rets) :=
  ((((headW_lw he).app (nums_lw h1)).app (Lw.flat fun x hx => dbW_lw (h2 x hx))).app (Lw.flat fun x hx => rnW_lw (h3 x hx))).up (by omega)
set_option maxHeartbeats 32000000 in
set_option maxRecDepth 100000 in
theorem wreplyE (er : Int) (A1 A2 A3 : Option Addr) (c1 c2 c3 : Nat) (nums : List Int) (debs : List Db) (rets : List Rn) (w : World) (her : In64p er) (h1 : ∀ x ∈ nums, In64p x) (h2 : ∀ x ∈ debs, x.in64) (h3 : ∀ x ∈ rets, x.ok w) (hn : nums.length ≤ 100) (hd : debs.length ≤ 100) (hr : rets.length ≤ 100) (s1 : Sl w A1 (ints .i64 nums)) (s2 : Sl w A2 (rc Db.cells debs)) (s3 : Sl w A3 (rc Rn.cells rets)) (hE : EvB w.heap.size w) :
    Calls Tryz.prog 17 #[.agg #[.int .i64 er, .slice A1 nums.length c1, .slice A2 debs.length c2, .slice A3 rets.length c3]] w fun e w' => e = .returned (.string (S8 (replyB er nums debs rets))) ∧ Below w.heap.size w w' := by
  obtain ⟨b, hb⟩ : ∃ b, w.heap.size = b := ⟨_, rfl⟩
  have hx0 : (w.alloc (.cells #[.int .i64 er, .slice A1 nums.length c1, .slice A2 debs.length c2, .slice A3 rets.length c3] 48)).heap[b]? = some (.cells #[.int .i64 er, .slice A1 nums.length c1, .slice A2 debs.length c2, .slice A3 rets.length c3] 48 (0, 0)) := by rw [← hb]; exact heap_alloc_new w _
  have hB0 : Below w.heap.size w (w.alloc (.cells #[.int .i64 er, .slice A1 nums.length c1, .slice A2 debs.length c2, .slice A3 rets.length c3] 48)) := since_alloc (Below.refl _ w) _
  have hz0 : (w.alloc (.cells #[.int .i64 er, .slice A1 nums.length c1, .slice A2 debs.length c2, .slice A3 rets.length c3] 48)).heap.size = b + 1 := by rw [← hb]; exact Array.size_push _
  have HBW := Lib.hid hb
  have HSL : Hid (∀ V, Below b w V → Sl V A1 (ints .i64 nums) ∧ Sl V A2 (rc Db.cells debs) ∧ Sl V A3 (rc Rn.cells rets) ∧ ∀ x ∈ rets, x.ok V) := Lib.hid fun V hV => by
    rw [← hb] at hV
    exact ⟨s1.below hV, s2.below hV, s3.below hV, fun x hx => (h3 x hx).below hV⟩
  have HEVB : Hid (∀ V, Below b w V → EvB b V) := Lib.hid fun V hV => by
    rw [← hb] at hV ⊢
    exact hE.on hV
  have HLR : Hid (Lw 50000 (replyW er nums debs rets)) := Lib.hid (replyW_lw her h1 h2 h3 hn hd hr)
  have HI1 := Lib.hid h1
  have HI2 := Lib.hid h2
  rw [hb] at hB0 ⊢
  clear hb hE s1 s2 s3 h1 h2 h3
  obtain ⟨W1, hW1⟩ : ∃ W1, w.alloc (.cells #[.int .i64 er, .slice A1 nums.length c1, .slice A2 debs.length c2, .slice A3 rets.length c3] 48) = W1 := ⟨_, rfl⟩
  rw [hW1] at hx0 hB0 hz0
  have HW1 := Lib.hid hW1
  clear hW1
  have hTn := TxS.new W1
  have hal := since_alloc (Below.refl _ W1) (.cells #[.slice none 0 0] 70)
  obtain ⟨g, hg⟩ : ∃ g, W1.heap.size = g := ⟨_, rfl⟩
  obtain ⟨Y, hY⟩ : ∃ Y, W1.alloc (.cells #[.slice none 0 0] 70) = Y := ⟨_, rfl⟩
  rw [hY, hg] at hTn
  have hlt0 : b ≤ W1.heap.size := by omega
  have hxY := (hal.block b (by omega)).trans hx0
  have hBY := hB0.trans (hal.mono hlt0)
  rw [hY] at hxY hBY
  have HGE := Lib.hid hg
  have HG1 : Hid (b + 1 = g) := Lib.hid (by omega)
  have HYE := Lib.hid hY
  have hTS : TxS b Y g none 0 [] := ⟨hTn.blk, own_nil _ _ _, by omega⟩
  have hYs : b ≤ Y.heap.size := Nat.le_of_lt (Array.getElem?_eq_some_iff.1 hxY).1
  have HT0 := Lib.hid (show Tt b g none none 0 [] Y Y from Tt.refl hTS)
  have HKY : Hid (∀ V, Chg g none Y V → V.heap[b]? = some (.cells #[.int .i64 er, .slice A1 nums.length c1, .slice A2 debs.length c2, .slice A3 rets.length c3] 48 (0, 0)) ∧ Below b w V) := Lib.hid fun V hC => ⟨hTS.keep hC hxY (fun cs t f e => by injection e with _ e2 _; subst e2; decide), hBY.trans (hTS.old hYs hC)⟩
  clear hTn hal hg hY hx0 hB0 hz0 hlt0 hxY hBY hTS hYs
  have HEVT0 : Hid (∀ V, Chg g none Y V → EvB V.heap.size V ∧ b ≤ V.heap.size) := Lib.hid fun V hC => by
    obtain ⟨hx, hB⟩ := HKY.out V hC
    have := (Array.getElem?_eq_some_iff.1 hx).1
    exact ⟨(HEVB.out V hB).up (by omega), by omega⟩
  have HCE : Hid (∀ V, Chg g none Y V → V.cell? ⟨b, 0, none⟩ = some (.int .i64 er) ∧ V.cell? ⟨b, 0 + 1, none⟩ = some (.slice A1 nums.length c1) ∧ V.cell? ⟨b, 0 + 2, none⟩ = some (.slice A2 debs.length c2) ∧ V.cell? ⟨b, 0 + 3, none⟩ = some (.slice A3 rets.length c3) ∧ b < V.heap.size) := Lib.hid fun V hC => by
    have h := (HKY.out V hC).1
    exact ⟨(cell_of_row V _ 0 _ _ (0, 0) h).trans rfl, (cell_of_row V _ 1 _ _ (0, 0) h).trans rfl, (cell_of_row V _ 2 _ _ (0, 0) h).trans rfl, (cell_of_row V _ 3 _ _ (0, 0) h).trans rfl, (Array.getElem?_eq_some_iff.1 h).1⟩
  have HNR : Hid (∀ x ∈ nums, ∀ V, Ev V → Calls Tryz.prog 29 #[.int .i64 x] V fun e w' => e = .returned (.string (S8 (Lib.itoa x))) ∧ Below V.heap.size V w') := Lib.hid fun x hx V h => wnum x (HI1.out x hx) V h
  have HSM := Lib.hid (fun V (h : Ev V) => wsmall er her V h)
  have HHD : Hid (headW er = if er = 0 then [okW8] else [errW8, Lib.itoa er]) := Lib.hid rfl
  have HRB : Hid (replyB er nums debs rets = Lib.join (replyW er nums debs rets) [32]) := Lib.hid rfl
  have HNE : Hid (replyW er nums debs rets ≠ []) := Lib.hid (by unfold replyW headW; split <;> simp)
  have HRW : Hid (replyW er nums debs rets = headW er ++ nums.map Lib.itoa ++ debs.flatMap dbW ++ rets.flatMap rnW) := Lib.hid rfl
  have HH2 : Hid (Lw 2 (headW er)) := Lib.hid (headW_lw her)
  have HLD : Hid (∀ k, ((debs.take k).flatMap dbW).length ≤ 400) := Lib.hid fun k => take_lw (n := 4) (m := 100) (fun x hx => dbW_lw (HI2.out x hx)) hd k
  have HLT3 : Hid (∀ k, ((rets.take k).flatMap rnW).length ≤ 40300) := Lib.hid fun k => take_lw (n := 403) (m := 100) (fun x hx => rnW_lw ((HSL.out w (Below.refl _ _)).2.2.2 x hx)) hr k
  clear her
  obtain ⟨H0, hH0⟩ : ∃ H0, headW er = H0 := ⟨_, rfl⟩
  rw [hH0] at HHD HRW HH2
  obtain ⟨RW, hRW⟩ : ∃ RW, replyW er nums debs rets = RW := ⟨_, rfl⟩
  rw [hRW] at HRW HRB HLR HNE
  clear hH0 hRW
  go_enter Tryz.func17, Tryz.ntmps17
  go_upto_region 2 with fail
  rw [HW1.out, HYE.out, HBW.out, HG1.out]
  clear HW1 HGE HYE HBW HG1
  obtain ⟨k0, k1, k2, k3, kl⟩ := HCE.out Y HT0.out.chg
  go_upto_if 16 with fail
  go_cut [] (fun wx => ∃ (A : Option Addr) (c : Nat), Tt b g none A c H0 Y wx)
  case first =>
    by_cases hz : er = 0
    · have he : (er == 0) = true := by rw [beq_iff_eq]; exact hz
      have hH : Hid (H0 = [okW8]) := Lib.hid (by rw [HHD.out, if_pos hz])
      have hal := since_alloc (Below.refl _ Y) (.cells #[.string (⟨#[111, 107]⟩ : ByteArray)] 9)
      have hT1 := HT0.out.below hal
      have HAD := Lib.hid (tadd b g none 0 [] (some ⟨Y.heap.size, 0, none⟩) 1 [okW8] (Y.alloc (.cells #[.string (⟨#[111, 107]⟩ : ByteArray)] 9)) hT1.s (HEVT0.out _ hT1.chg).2 (by simp) (Sl.new_ _ (strs [okW8]) _))
      have HT1 := Lib.hid hT1
      clear hz hal hT1
      go_wp2_with fail
      refine HAD.out.mono ?_
      rintro e y3 ⟨rfl, A5, c5, hT⟩
      have hT7 := HT1.out.trans hT
      go_wp2_with fail
      go_meet
      case rel => exact ⟨A5, c5, by rw [hH.out]; exact hT7⟩
    · have he : (er == 0) = false := by rw [beq_eq_false_iff_ne]; exact hz
      have hH : Hid (H0 = [errW8, Lib.itoa er]) := Lib.hid (by rw [HHD.out, if_neg hz])
      have HEv := Lib.hid (HEVT0.out Y HT0.out.chg).1.here
      clear hz
      go_wp2_with fail
      refine (HSM.out _ HEv.out).mono ?_
      rintro e y1 ⟨rfl, hb1⟩
      have hT0 := HT0.out.below hb1
      have hal := since_alloc (Below.refl _ y1) (.cells #[.string (⟨#[101, 114, 114, 111, 114]⟩ : ByteArray), .string (S8 (Lib.itoa er))] 9)
      have hT1 := hT0.below hal
      have HAD := Lib.hid (tadd b g none 0 [] (some ⟨y1.heap.size, 0, none⟩) 2 [errW8, Lib.itoa er] (y1.alloc (.cells #[.string (⟨#[101, 114, 114, 111, 114]⟩ : ByteArray), .string (S8 (Lib.itoa er))] 9)) hT1.s (HEVT0.out _ hT1.chg).2 (by simp) (Sl.new_ _ (strs [errW8, Lib.itoa er]) _))
      have HT1 := Lib.hid hT1
      clear hb1 hT0 hal hT1
      go_wp2_with fail
      refine HAD.out.mono ?_
      rintro e y3 ⟨rfl, A5, c5, hT⟩
      have hT7 := HT1.out.trans hT
      go_wp2_with fail
      go_meet
      case rel => exact ⟨A5, c5, by rw [hH.out]; exact hT7⟩
  case rest =>
    obtain ⟨A, c, hT⟩ := hcut
    have HT := Lib.hid hT
    clear k0 k1 k2 k3 kl
    obtain ⟨k0, k1, k2, k3, kl⟩ := HCE.out _ hT.chg
    clear hT
    go_wp2_with fail
    clear k0 k1 k2 k3 kl
    go_loopw [29] (fun iv wr => ∃ (j : Nat) (A4 : Option Addr) (c4 : Nat), j ≤ nums.length ∧ iv = .int .i64 (j : Int) ∧ Tt b g none A4 c4 (H0 ++ ((nums.take j).map Lib.itoa)) Y wr) (fun iv _ => nums.length - (intOf iv).toNat)
    case atStart => exact ⟨0, A, c, by omega, rfl, by simpa using HT.out⟩
    case round =>
      clear HT
      obtain ⟨j, A4, c4, hj1, rfl, hW4⟩ := hrel
      by_cases hj : j < nums.length
      · have hjl : (j : Int) < (nums.length : Int) := by omega
        have hj0 : (0 : Int) ≤ (j : Int) := by omega
        obtain ⟨hxb, hB⟩ := HKY.out wr hW4.chg
        obtain ⟨b2, o2, hA2, c0⟩ := (HSL.out wr hB).1.int hj
        obtain ⟨x, hx⟩ : ∃ x, nums[j] = x := ⟨_, rfl⟩
        have hTJ : (H0 ++ (nums.take (j + 1)).map Lib.itoa) = (H0 ++ (nums.take j).map Lib.itoa) ++ [Lib.itoa x] := by rw [take_snoc nums j hj, List.map_append, ← List.append_assoc, hx]; rfl
        have HNM := Lib.hid (HNR.out x (by rw [← hx]; exact List.getElem_mem hj))
        rw [hx] at c0
        have HTJ := Lib.hid hTJ
        have hlen4 : (H0 ++ (nums.take j).map Lib.itoa).length ≤ 200 := by
          have := HH2.out.1
          rw [List.length_append, List.length_map, List.length_take]
          omega
        obtain ⟨B4, hB4⟩ : ∃ B4, H0 ++ (nums.take j).map Lib.itoa = B4 := ⟨_, rfl⟩
        rw [hB4] at hW4 hlen4 HTJ
        have HL4 := Lib.hid hlen4
        have HW4 := Lib.hid hW4
        have HEv := Lib.hid (HEVT0.out wr hW4.chg).1.here
        subst hA2
        clear hx hTJ hB hB4 hlen4 hW4 hxb
        go_wp2_with fail
        refine (HNM.out _ HEv.out).mono ?_
        rintro e y1 ⟨rfl, hb1⟩
        have hT5 := HW4.out.below hb1
        have hal := since_alloc (Below.refl _ y1) (.cells #[.string (S8 (Lib.itoa x))] 9)
        have hT6 := hT5.below hal
        have HAD := Lib.hid (tadd b g A4 c4 B4 (some ⟨y1.heap.size, 0, none⟩) 1 [Lib.itoa x] (y1.alloc (.cells #[.string (S8 (Lib.itoa x))] 9)) hT6.s (HEVT0.out _ hT6.chg).2 (by have := HL4.out; simp; omega) (Sl.new_ _ (strs [Lib.itoa x]) _))
        have HT6 := Lib.hid hT6
        clear hb1 hT5 hal hT6
        go_wp2_with fail
        refine HAD.out.mono ?_
        rintro e y3 ⟨rfl, A5, c5, hT⟩
        have hWN := HT6.out.trans hT
        rw [← HTJ.out] at hWN
        clear hT HAD
        go_wp2_with fail
        go_roundw
        case rel => exact ⟨j + 1, _, _, by omega, by go_num, hWN⟩
        case measure => simp [intOf]; omega
      · obtain rfl : j = nums.length := by omega
        rw [List.take_length] at hW4
        have HW4 := Lib.hid hW4
        obtain ⟨k0, k1, k2, k3, kl⟩ := HCE.out _ hW4.chg
        clear hW4
        go_wp2_with fail
        clear k0 k1 k2 k3 kl
        go_loopw [42] (fun iv wr => ∃ (j : Nat) (A4 : Option Addr) (c4 : Nat), j ≤ debs.length ∧ iv = .int .i64 (j : Int) ∧ Tt b g none A4 c4 ((H0 ++ nums.map Lib.itoa) ++ ((debs.take j).flatMap dbW)) Y wr) (fun iv _ => debs.length - (intOf iv).toNat)
        case atStart => exact ⟨0, A4, c4, by omega, rfl, by simpa using HW4.out⟩
        case round =>
          clear HW4
          obtain ⟨j, A4, c4, hj1, rfl, hW4⟩ := hrel
          by_cases hj : j < debs.length
          · have hjl : (j : Int) < (debs.length : Int) := by omega
            have hj0 : (0 : Int) ≤ (j : Int) := by omega
            obtain ⟨hxb, hB⟩ := HKY.out wr hW4.chg
            obtain ⟨b2, o2, hA2, hbw, hcc⟩ := Sl.elem (m := 5) (fun x => rfl) (by decide) (HSL.out wr hB).2.1 hj
            have hmem := List.getElem_mem hj
            obtain ⟨x, hx⟩ : ∃ x, debs[j] = x := ⟨_, rfl⟩
            have hTJ : ((H0 ++ nums.map Lib.itoa) ++ (debs.take (j + 1)).flatMap dbW) = ((H0 ++ nums.map Lib.itoa) ++ (debs.take j).flatMap dbW) ++ dbW x := by rw [take_snoc debs j hj, List.flatMap_append, ← List.append_assoc, hx]; simp
            rw [hx] at hcc hmem
            have HTJ := Lib.hid hTJ
            obtain ⟨B4, hB4⟩ : ∃ B4, (H0 ++ nums.map Lib.itoa) ++ (debs.take j).flatMap dbW = B4 := ⟨_, rfl⟩
            have hlen4 : B4.length ≤ 600 := by
              have h1 := HH2.out.1
              have h2 := HLD.out j
              rw [← hB4, List.length_append, List.length_append, List.length_map]
              omega
            obtain ⟨xa, xb, xc, xd, xq⟩ := x
            obtain ⟨ia, ib, ic, id, iq⟩ := HI2.out _ hmem
            simp only at ia ib ic id iq
            have d0 := hcc 0 _ rfl
            have d1 := hcc 1 _ rfl
            have d2 := hcc 2 _ rfl
            have d3 := hcc 3 _ rfl
            have d4 := hcc 4 _ rfl
            simp only [Nat.add_zero] at d0
            rw [hB4] at hW4 HTJ
            have HLT : Hid (B4.length + 4 ≤ 1000000) := Lib.hid (by omega)
            have HU1 := Lib.hid (fun V (h : EvB V.heap.size V) => wunitB xa xb ia ib V h)
            have HU2 := Lib.hid (fun V (h : EvB V.heap.size V) => wunitB xc xd ic id V h)
            have HN1 := Lib.hid (fun V (h : EvB V.heap.size V) => wnum xq iq V h.here)
            subst hA2
            clear hx hTJ hB4 hlen4 hmem ia ib ic id iq hcc
            have hal := since_alloc (Below.refl _ wr) (.cells #[.int .i64 xa, .int .i64 xb, .int .i64 xc, .int .i64 xd, .int .i64 xq] 99)
            have hqx := heap_alloc_new wr (.cells #[.int .i64 xa, .int .i64 xb, .int .i64 xc, .int .i64 xd, .int .i64 xq] 99)
            obtain ⟨q, hq⟩ : ∃ q, wr.heap.size = q := ⟨_, rfl⟩
            rw [hq] at hqx
            obtain ⟨Y2, hY2⟩ : ∃ Y2, wr.alloc (.cells #[.int .i64 xa, .int .i64 xb, .int .i64 xc, .int .i64 xd, .int .i64 xq] 99) = Y2 := ⟨_, rfl⟩
            have hW5 := hW4.below hal
            rw [hY2] at hqx hW5
            have HQ := Lib.hid hq
            have HY2 := Lib.hid hY2
            have HW5 := Lib.hid hW5
            obtain ⟨R, hR⟩ : ∃ R, obS A4 B4 c4 = R := ⟨_, rfl⟩
            have hTR := Tt.refl hW5.s
            rw [hR] at hTR
            have HTR := Lib.hid hTR
            have HRE := Lib.hid hR
            have HFX : Hid (∀ V, Chg g R Y2 V → V.heap[q]? = some (.cells #[.int .i64 xa, .int .i64 xb, .int .i64 xc, .int .i64 xd, .int .i64 xq] 99 (0, 0))) := Lib.hid fun V hC => by
              rw [← hR] at hC
              exact hW5.s.keep hC hqx (fun cs t f e => by injection e with _ e2 _; subst e2; decide)
            have HTY : Hid (∀ V A' c' L', Tt b g R A' c' L' Y2 V → Tt b g none A' c' L' Y V) := Lib.hid fun V A' c' L' h => by
              rw [← hR] at h
              exact hW5.trans h
            have HEVT : Hid (∀ V, Chg g R Y2 V → EvB V.heap.size V) := Lib.hid fun V hC => by
              rw [← hR] at hC
              exact (HEVT0.out V (hW5.chg.trans hC hW5.row)).1
            have HBT : Hid (∀ V, Chg g R Y2 V → b ≤ V.heap.size) := Lib.hid fun V hC => by
              rw [← hR] at hC
              exact (HEVT0.out V (hW5.chg.trans hC hW5.row)).2
            clear hal hqx hq hY2 hW5 hR hTR hW4 hB hxb
            go_upto_region 13 with fail
            rw [HY2.out, HQ.out]
            have HF : Hid (∀ V, Chg g R Y2 V → V.cell? ⟨q, 0, none⟩ = some (.int .i64 xa) ∧ V.cell? ⟨q, 0 + 1, none⟩ = some (.int .i64 xb) ∧ V.cell? ⟨q, 0 + 2, none⟩ = some (.int .i64 xc) ∧ V.cell? ⟨q, 0 + 3, none⟩ = some (.int .i64 xd) ∧ V.cell? ⟨q, 0 + 4, none⟩ = some (.int .i64 xq) ∧ q < V.heap.size) := Lib.hid fun V hC => by
              have h := HFX.out V hC
              exact ⟨(cell_of_row V _ 0 _ _ (0, 0) h).trans rfl, (cell_of_row V _ 1 _ _ (0, 0) h).trans rfl, (cell_of_row V _ 2 _ _ (0, 0) h).trans rfl, (cell_of_row V _ 3 _ _ (0, 0) h).trans rfl, (cell_of_row V _ 4 _ _ (0, 0) h).trans rfl, (Array.getElem?_eq_some_iff.1 h).1⟩
            refine wp_region_held_drew (S := (fun V => Chg g R Y2 V)) (by kernel_rfl) (by exact (Chg.of_below (Below.refl _ Y2).drew)) (fun hHeld => ?_)
            refine tkZ (i := 0) (oi := ⟨some 46, _, _, _, _, _⟩) (v := ?_) rfl (by kernel_rfl) (fun _ _ _ h => h) (Or.inl ⟨by rfl, ?_⟩) hHeld ?_
            rotate_left
            · (intro w hSw; obtain ⟨p0, p1, p2, p3, p4, pl⟩ := HF.out _ (hSw); go_simp <;> with_reducible rfl)
            try simp only [pqZ]
            refine tkZ (i := 1) (oi := ⟨some 47, _, _, _, _, _⟩) (v := ?_) rfl (by kernel_rfl) (fun _ _ _ h => h) (Or.inl ⟨by rfl, ?_⟩) hHeld ?_
            rotate_left
            · (intro w hSw; obtain ⟨p0, p1, p2, p3, p4, pl⟩ := HF.out _ (hSw); go_simp <;> with_reducible rfl)
            try simp only [pqZ]
            refine tkZ (i := 2) (oi := ⟨some 48, _, _, _, _, _⟩) (v := ?_) rfl (by kernel_rfl) (fun _ _ _ h => h) (Or.inl ⟨by rfl, ?_⟩) hHeld ?_
            rotate_left
            · (intro w hSw; obtain ⟨p0, p1, p2, p3, p4, pl⟩ := HF.out _ (hSw); go_simp <;> with_reducible rfl)
            try simp only [pqZ]
            refine tkZ (i := 4) (oi := ⟨some 50, _, _, _, _, _⟩) (v := ?_) rfl (by kernel_rfl) (fun _ _ _ h => h) (Or.inl ⟨by rfl, ?_⟩) hHeld ?_
            rotate_left
            · (intro w hSw; obtain ⟨p0, p1, p2, p3, p4, pl⟩ := HF.out _ (hSw); go_simp <;> with_reducible rfl)
            try simp only [pqZ]
            refine tkZ (i := 5) (oi := ⟨some 51, _, _, _, _, _⟩) (v := ?_) rfl (by kernel_rfl) (fun _ _ _ h => h) (Or.inl ⟨by rfl, ?_⟩) hHeld ?_
            rotate_left
            · (intro w hSw; obtain ⟨p0, p1, p2, p3, p4, pl⟩ := HF.out _ (hSw); go_simp <;> with_reducible rfl)
            try simp only [pqZ]
            refine tkZ (i := 7) (oi := ⟨some 53, _, _, _, _, _⟩) (v := ?_) rfl (by kernel_rfl) (fun _ _ _ h => h) (Or.inl ⟨by rfl, ?_⟩) hHeld ?_
            rotate_left
            · (intro w hSw; obtain ⟨p0, p1, p2, p3, p4, pl⟩ := HF.out _ (hSw); go_simp <;> with_reducible rfl)
            try simp only [pqZ]
            refine tkZ (i := 8) (oi := ⟨some 54, _, _, _, _, _⟩) (v := ?_) rfl (by kernel_rfl) (fun _ _ _ h => h) (Or.inl ⟨by rfl, ?_⟩) hHeld ?_
            rotate_left
            · (intro w hSw; obtain ⟨p0, p1, p2, p3, p4, pl⟩ := HF.out _ (hSw); go_simp <;> with_reducible rfl)
            try simp only [pqZ]
            refine wpAnyH_ready (rs := [3]) (by kernel_rfl) (by simp) ?_
            refine AllReadyH.cons (o := ⟨some 49, _, _, _, _, _⟩) rfl (fun K hK => ?_) AllReadyH.nil
            go_simp
            refine (HU1.out _ (HEVT.out _ hHeld)).mono ?_
            rintro e y1 ⟨rfl, hb1⟩
            have hT1 := (HTR.out.below (Below.refl _ Y2).drew).below hb1
            have hKeep := hT1.chg
            clear hb1
            go_wp2_with fail
            refine hK.out _ _ (by (try dsimp only); exact hKeep) (fun hHeld => ?_)
            clear hK K hKeep
            try simp only [pqZ]
            refine wpAnyH_ready (rs := [6]) (by kernel_rfl) (by simp) ?_
            refine AllReadyH.cons (o := ⟨some 52, _, _, _, _, _⟩) rfl (fun K hK => ?_) AllReadyH.nil
            go_simp
            refine (HU2.out _ (HEVT.out _ hHeld)).mono ?_
            rintro e y2 ⟨rfl, hb2⟩
            have hT2 := hT1.below hb2
            have hKeep := hT2.chg
            clear hb2
            go_wp2_with fail
            refine hK.out _ _ (by (try dsimp only); exact hKeep) (fun hHeld => ?_)
            clear hK K hKeep
            try simp only [pqZ]
            refine wpAnyH_ready (rs := [9]) (by kernel_rfl) (by simp) ?_
            refine AllReadyH.cons (o := ⟨some 55, _, _, _, _, _⟩) rfl (fun K hK => ?_) AllReadyH.nil
            go_simp
            refine (HN1.out _ (HEVT.out _ hHeld)).mono ?_
            rintro e y3 ⟨rfl, hb3⟩
            have hT3 := hT2.below hb3
            have hKeep := hT3.chg
            clear hb3
            go_wp2_with fail
            refine hK.out _ _ (by (try dsimp only); exact hKeep) (fun hHeld => ?_)
            clear hK K hKeep
            try simp only [pqZ]
            refine wpAnyH_ready (rs := [10]) (by kernel_rfl) (by simp) ?_
            refine AllReadyH.cons (o := ⟨some 56, _, _, _, _, _⟩) rfl (fun K hK => ?_) AllReadyH.nil
            have hHd := hHeld
            obtain ⟨p0, p1, p2, p3, p4, pl⟩ := HF.out _ (hHd)
            have hal7 := since_alloc (Below.refl _ y3) (.cells (strs [[100, 101, 98, 105, 116], unitB xa xb, unitB xc xd, Lib.itoa xq]).toArray 9)
            have hT4 := hT3.below hal7
            have hKeep : Chg g R Y2 (y3.alloc (.cells #[.string (S8 ([100, 101, 98, 105, 116])), .string (S8 (unitB xa xb)), .string (S8 (unitB xc xd)), .string (S8 (Lib.itoa xq))] 9)) := hT4.chg
            clear hal7
            go_simp
            refine hK.out _ _ (by (try dsimp only); exact hKeep) (fun hHeld => ?_)
            clear hK K hKeep
            try simp only [pqZ]
            refine wpAnyH_ready (rs := [11]) (by kernel_rfl) (by simp) ?_
            refine AllReadyH.cons (o := ⟨some 57, _, _, _, _, _⟩) rfl (fun K hK => ?_) AllReadyH.nil
            go_simp
            refine (tadd b g A4 c4 B4 (some ⟨y3.heap.size, 0, none⟩) 4 [[100, 101, 98, 105, 116], unitB xa xb, unitB xc xd, Lib.itoa xq] (y3.alloc (.cells (strs [[100, 101, 98, 105, 116], unitB xa xb, unitB xc xd, Lib.itoa xq]).toArray 9)) hT4.s (HBT.out _ hT4.chg) HLT.out (Sl.new_ _ _ _)).mono ?_
            rintro e y5 ⟨rfl, A8, c8, hT⟩
            have hT5 := hT4.trans hT
            have hKeep : Chg g R Y2 y5 := hT5.chg
            clear hT
            go_wp2_with fail
            refine hK.out _ _ (by (try dsimp only); exact hKeep) (fun hHeld => ?_)
            clear hK K hKeep
            try simp only [pqZ]
            refine wpAnyH_done (by kernel_rfl) ?_ _
            have hTB := hT5
            clear hT1 hT2 hT3 hT4 hT5 hHeld
            have hWN := HTY.out _ _ _ _ hTB
            have hTJ2 := HTJ.out
            unfold dbW at hTJ2
            rw [← hTJ2] at hWN
            clear hTB hTJ2
            go_wp2_with fail
            go_roundw
            case rel => exact ⟨j + 1, _, _, by omega, by go_num, hWN⟩
            case measure => simp [intOf]; omega
          · obtain rfl : j = debs.length := by omega
            rw [List.take_length] at hW4
            have HW4 := Lib.hid hW4
            obtain ⟨k0, k1, k2, k3, kl⟩ := HCE.out _ hW4.chg
            clear hW4
            go_wp2_with fail
            clear k0 k1 k2 k3 kl
            go_loopw [62] (fun iv wr => ∃ (j : Nat) (A4 : Option Addr) (c4 : Nat), j ≤ rets.length ∧ iv = .int .i64 (j : Int) ∧ Tt b g none A4 c4 ((H0 ++ nums.map Lib.itoa ++ debs.flatMap dbW) ++ ((rets.take j).flatMap rnW)) Y wr) (fun iv _ => rets.length - (intOf iv).toNat)
            case atStart => exact ⟨0, A4, c4, by omega, rfl, by simpa using HW4.out⟩
            case round =>
              clear HW4
              obtain ⟨j, A4, c4, hj1, rfl, hW4⟩ := hrel
              by_cases hj : j < rets.length
              · have hjl : (j : Int) < (rets.length : Int) := by omega
                have hj0 : (0 : Int) ≤ (j : Int) := by omega
                obtain ⟨hxb, hB⟩ := HKY.out wr hW4.chg
                obtain ⟨b2, o2, hA2, hbw, hcc⟩ := Sl.elem (m := 4) (fun x => rfl) (by decide) (HSL.out wr hB).2.2.1 hj
                have hmem := List.getElem_mem hj
                obtain ⟨x, hx⟩ : ∃ x, rets[j] = x := ⟨_, rfl⟩
                have hTJ : ((H0 ++ nums.map Lib.itoa ++ debs.flatMap dbW) ++ (rets.take (j + 1)).flatMap rnW) = ((H0 ++ nums.map Lib.itoa ++ debs.flatMap dbW) ++ (rets.take j).flatMap rnW) ++ rnW x := by rw [take_snoc rets j hj, List.flatMap_append, ← List.append_assoc, hx]; simp
                rw [hx] at hcc hmem
                have HTJ := Lib.hid hTJ
                obtain ⟨B4, hB4⟩ : ∃ B4, (H0 ++ nums.map Lib.itoa ++ debs.flatMap dbW) ++ (rets.take j).flatMap rnW = B4 := ⟨_, rfl⟩
                have hlen4 : B4.length ≤ 41000 := by
                  have h1 := HH2.out.1
                  have h2 := HLD.out debs.length
                  have h3 := HLT3.out j
                  rw [List.take_length] at h2
                  rw [← hB4, List.length_append, List.length_append, List.length_append, List.length_map]
                  omega
                have HOKX := Lib.hid (fun V hV => (HSL.out V hV).2.2.2 x hmem)
                obtain ⟨xa, xb, xq, xA, xc, xl⟩ := x
                obtain ⟨ia, ib, iq, hll, hil, _⟩ := (HSL.out wr hB).2.2.2 _ hmem
                simp only at ia ib iq hll hil
                have d0 := hcc 0 _ rfl
                have d1 := hcc 1 _ rfl
                have d2 := hcc 2 _ rfl
                have d3 := hcc 3 _ rfl
                simp only [Nat.add_zero] at d0
                rw [hB4] at hW4 HTJ
                have HLT : Hid (B4.length + 3 ≤ 1000000) := Lib.hid (by omega)
                have HL4 : Hid (B4.length ≤ 41000) := Lib.hid hlen4
                have HIL := Lib.hid hil
                have HLL : Hid (∀ k, ((xl.take k).flatMap loW).length ≤ 400) := Lib.hid fun k => take_lw (n := 4) (m := 100) (fun x hx => loW_lw (hil x hx)) hll k
                have HXL := Lib.hid hll
                have HU1 := Lib.hid (fun V (h : EvB V.heap.size V) => wunitB xa xb ia ib V h)
                have HN1 := Lib.hid (fun V (h : EvB V.heap.size V) => wnum xq iq V h.here)
                subst hA2
                clear hx hTJ hB4 hlen4 hmem ia ib iq hcc hll hil
                have hal := since_alloc (Below.refl _ wr) (.cells #[.int .i64 xa, .int .i64 xb, .int .i64 xq, .slice xA xl.length xc] 51)
                have hqx := heap_alloc_new wr (.cells #[.int .i64 xa, .int .i64 xb, .int .i64 xq, .slice xA xl.length xc] 51)
                obtain ⟨q, hq⟩ : ∃ q, wr.heap.size = q := ⟨_, rfl⟩
                rw [hq] at hqx
                obtain ⟨Y2, hY2⟩ : ∃ Y2, wr.alloc (.cells #[.int .i64 xa, .int .i64 xb, .int .i64 xq, .slice xA xl.length xc] 51) = Y2 := ⟨_, rfl⟩
                have hW5 := hW4.below hal
                rw [hY2] at hqx hW5
                have HQ := Lib.hid hq
                have HY2 := Lib.hid hY2
                have HW5 := Lib.hid hW5
                obtain ⟨R, hR⟩ : ∃ R, obS A4 B4 c4 = R := ⟨_, rfl⟩
                have hTR := Tt.refl hW5.s
                rw [hR] at hTR
                have HTR := Lib.hid hTR
                have HRE := Lib.hid hR
                have HFX : Hid (∀ V, Chg g R Y2 V → V.heap[q]? = some (.cells #[.int .i64 xa, .int .i64 xb, .int .i64 xq, .slice xA xl.length xc] 51 (0, 0))) := Lib.hid fun V hC => by
                  rw [← hR] at hC
                  exact hW5.s.keep hC hqx (fun cs t f e => by injection e with _ e2 _; subst e2; decide)
                have HTY : Hid (∀ V A' c' L', Tt b g R A' c' L' Y2 V → Tt b g none A' c' L' Y V) := Lib.hid fun V A' c' L' h => by
                  rw [← hR] at h
                  exact hW5.trans h
                have HEVT : Hid (∀ V, Chg g R Y2 V → EvB V.heap.size V) := Lib.hid fun V hC => by
                  rw [← hR] at hC
                  exact (HEVT0.out V (hW5.chg.trans hC hW5.row)).1
                have HBT : Hid (∀ V, Chg g R Y2 V → b ≤ V.heap.size) := Lib.hid fun V hC => by
                  rw [← hR] at hC
                  exact (HEVT0.out V (hW5.chg.trans hC hW5.row)).2
                clear hal hqx hq hY2 hW5 hR hTR hW4 hB hxb
                go_upto_region 18 with fail
                rw [HY2.out, HQ.out]
                have HF : Hid (∀ V, Chg g R Y2 V → V.cell? ⟨q, 0, none⟩ = some (.int .i64 xa) ∧ V.cell? ⟨q, 0 + 1, none⟩ = some (.int .i64 xb) ∧ V.cell? ⟨q, 0 + 2, none⟩ = some (.int .i64 xq) ∧ V.cell? ⟨q, 0 + 3, none⟩ = some (.slice xA xl.length xc) ∧ q < V.heap.size) := Lib.hid fun V hC => by
                  have h := HFX.out V hC
                  exact ⟨(cell_of_row V _ 0 _ _ (0, 0) h).trans rfl, (cell_of_row V _ 1 _ _ (0, 0) h).trans rfl, (cell_of_row V _ 2 _ _ (0, 0) h).trans rfl, (cell_of_row V _ 3 _ _ (0, 0) h).trans rfl, (Array.getElem?_eq_some_iff.1 h).1⟩
                refine wp_region_held_drew (S := (fun V => Chg g R Y2 V)) (by kernel_rfl) (by exact (Chg.of_below (Below.refl _ Y2).drew)) (fun hHeld => ?_)
                refine tkZ (i := 0) (oi := ⟨some 66, _, _, _, _, _⟩) (v := ?_) rfl (by kernel_rfl) (fun _ _ _ h => h) (Or.inl ⟨by rfl, ?_⟩) hHeld ?_
                rotate_left
                · (intro w hSw; obtain ⟨p0, p1, p2, p3, pl⟩ := HF.out _ (hSw); go_simp <;> with_reducible rfl)
                try simp only [pqZ]
                refine tkZ (i := 1) (oi := ⟨some 67, _, _, _, _, _⟩) (v := ?_) rfl (by kernel_rfl) (fun _ _ _ h => h) (Or.inl ⟨by rfl, ?_⟩) hHeld ?_
                rotate_left
                · (intro w hSw; obtain ⟨p0, p1, p2, p3, pl⟩ := HF.out _ (hSw); go_simp <;> with_reducible rfl)
                try simp only [pqZ]
                refine tkZ (i := 2) (oi := ⟨some 68, _, _, _, _, _⟩) (v := ?_) rfl (by kernel_rfl) (fun _ _ _ h => h) (Or.inl ⟨by rfl, ?_⟩) hHeld ?_
                rotate_left
                · (intro w hSw; obtain ⟨p0, p1, p2, p3, pl⟩ := HF.out _ (hSw); go_simp <;> with_reducible rfl)
                try simp only [pqZ]
                refine tkZ (i := 4) (oi := ⟨some 70, _, _, _, _, _⟩) (v := ?_) rfl (by kernel_rfl) (fun _ _ _ h => h) (Or.inl ⟨by rfl, ?_⟩) hHeld ?_
                rotate_left
                · (intro w hSw; obtain ⟨p0, p1, p2, p3, pl⟩ := HF.out _ (hSw); go_simp <;> with_reducible rfl)
                try simp only [pqZ]
                refine tkZ (i := 5) (oi := ⟨some 71, _, _, _, _, _⟩) (v := ?_) rfl (by kernel_rfl) (fun _ _ _ h => h) (Or.inl ⟨by rfl, ?_⟩) hHeld ?_
                rotate_left
                · (intro w hSw; obtain ⟨p0, p1, p2, p3, pl⟩ := HF.out _ (hSw); go_simp <;> with_reducible rfl)
                try simp only [pqZ]
                refine wpAnyH_ready (rs := [3]) (by kernel_rfl) (by simp) ?_
                refine AllReadyH.cons (o := ⟨some 69, _, _, _, _, _⟩) rfl (fun K hK => ?_) AllReadyH.nil
                go_simp
                refine (HU1.out _ (HEVT.out _ hHeld)).mono ?_
                rintro e y1 ⟨rfl, hb1⟩
                have hT1 := (HTR.out.below (Below.refl _ Y2).drew).below hb1
                have hKeep := hT1.chg
                clear hb1
                go_wp2_with fail
                refine hK.out _ _ (by (try dsimp only); exact hKeep) (fun hHeld => ?_)
                clear hK K hKeep
                try simp only [pqZ]
                refine wpAnyH_ready (rs := [6]) (by kernel_rfl) (by simp) ?_
                refine AllReadyH.cons (o := ⟨some 72, _, _, _, _, _⟩) rfl (fun K hK => ?_) AllReadyH.nil
                go_simp
                refine (HN1.out _ (HEVT.out _ hHeld)).mono ?_
                rintro e y2 ⟨rfl, hb2⟩
                have hT2 := hT1.below hb2
                have hKeep := hT2.chg
                clear hb2
                go_wp2_with fail
                refine hK.out _ _ (by (try dsimp only); exact hKeep) (fun hHeld => ?_)
                clear hK K hKeep
                try simp only [pqZ]
                refine wpAnyH_ready (rs := [7]) (by kernel_rfl) (by simp) ?_
                refine AllReadyH.cons (o := ⟨some 73, _, _, _, _, _⟩) rfl (fun K hK => ?_) AllReadyH.nil
                have hHd := hHeld
                obtain ⟨p0, p1, p2, p3, pl⟩ := HF.out _ (hHd)
                have hal7 := since_alloc (Below.refl _ y2) (.cells (strs [[114, 101, 116, 117, 114, 110], unitB xa xb, Lib.itoa xq]).toArray 9)
                have hT3 := hT2.below hal7
                have hKeep : Chg g R Y2 (y2.alloc (.cells #[.string (S8 ([114, 101, 116, 117, 114, 110])), .string (S8 (unitB xa xb)), .string (S8 (Lib.itoa xq))] 9)) := hT3.chg
                clear hal7
                go_simp
                refine hK.out _ _ (by (try dsimp only); exact hKeep) (fun hHeld => ?_)
                clear hK K hKeep
                try simp only [pqZ]
                refine wpAnyH_ready (rs := [8]) (by kernel_rfl) (by simp) ?_
                refine AllReadyH.cons (o := ⟨some 74, _, _, _, _, _⟩) rfl (fun K hK => ?_) AllReadyH.nil
                go_simp
                refine (tadd b g A4 c4 B4 (some ⟨y2.heap.size, 0, none⟩) 3 [[114, 101, 116, 117, 114, 110], unitB xa xb, Lib.itoa xq] (y2.alloc (.cells (strs [[114, 101, 116, 117, 114, 110], unitB xa xb, Lib.itoa xq]).toArray 9)) hT3.s (HBT.out _ hT3.chg) HLT.out (Sl.new_ _ _ _)).mono ?_
                rintro e y4 ⟨rfl, A8, c8, hT⟩
                have hT4 := hT3.trans hT
                have hKeep : Chg g R Y2 y4 := hT4.chg
                clear hT
                go_wp2_with fail
                refine hK.out _ _ (by (try dsimp only); exact hKeep) (fun hHeld => ?_)
                clear hK K hKeep
                try simp only [pqZ]
                refine wpAnyH_done (by kernel_rfl) ?_ _
                have hTB := hT4
                clear hT1 hT2 hT3 hT4 hHeld
                have hW6 := HTY.out _ _ _ _ hTB
                obtain ⟨k0, k1, k2, k3, kl⟩ := HF.out _ hTB.chg
                obtain ⟨B5, hB5⟩ : ∃ B5, B4 ++ [[114, 101, 116, 117, 114, 110], unitB xa xb, Lib.itoa xq] = B5 := ⟨_, rfl⟩
                have HL5 : Hid (B5.length ≤ 41003) := Lib.hid (by rw [← hB5, List.length_append]; have := HL4.out; simp; omega)
                have HTJ5 : Hid (B5 ++ xl.flatMap loW = (H0 ++ nums.map Lib.itoa ++ debs.flatMap dbW) ++ (rets.take (j + 1)).flatMap rnW) := Lib.hid (by rw [HTJ.out, ← hB5]; unfold rnW rnH; rw [List.append_assoc])
                rw [hB5] at hW6
                have HW6 := Lib.hid hW6
                have hxl := HXL.out
                clear hTB hW6 hB5 HQ HY2 HW5 HTR HRE HFX HTY HEVT HBT HU1 HN1 HLT HTJ HL4 HXL
                clear HF
                go_wp2_with fail
                clear k0 k1 k2 k3 kl
                go_loopw [78] (fun iv wr => ∃ (i : Nat) (A4 : Option Addr) (c4 : Nat), i ≤ xl.length ∧ iv = .int .i64 (i : Int) ∧ Tt b g none A4 c4 (B5 ++ (xl.take i).flatMap loW) Y wr) (fun iv _ => xl.length - (intOf iv).toNat)
                case atStart => exact ⟨0, _, _, by omega, rfl, by simpa using HW6.out⟩
                case round =>
                  clear HW6
                  obtain ⟨i, A4, c4, hi1, rfl, hW4⟩ := hrel
                  by_cases hi : i < xl.length
                  · have hil : (i : Int) < (xl.length : Int) := by omega
                    have hi0 : (0 : Int) ≤ (i : Int) := by omega
                    obtain ⟨hxb, hB⟩ := HKY.out wr hW4.chg
                    obtain ⟨b3, o3, hA3, hbw, hcc⟩ := Sl.elem (m := 3) (fun x => rfl) (by decide) (HOKX.out wr hB).sl hi
                    have hmem := List.getElem_mem hi
                    obtain ⟨z, hz⟩ : ∃ z, xl[i] = z := ⟨_, rfl⟩
                    have hTJ3 : (B5 ++ (xl.take (i + 1)).flatMap loW) = (B5 ++ (xl.take i).flatMap loW) ++ loW z := by rw [take_snoc xl i hi, List.flatMap_append, ← List.append_assoc, hz]; simp
                    rw [hz] at hcc hmem
                    have HTJ3 := Lib.hid hTJ3
                    have hlen4 : (B5 ++ (xl.take i).flatMap loW).length ≤ 42000 := by
                      have h2 := HLL.out i
                      have h3 := HL5.out
                      rw [List.length_append]
                      omega
                    obtain ⟨B4, hB4⟩ : ∃ B4, B5 ++ (xl.take i).flatMap loW = B4 := ⟨_, rfl⟩
                    obtain ⟨za, zb, zq⟩ := z
                    obtain ⟨ia, ib, iq⟩ := HIL.out _ hmem
                    simp only at ia ib iq
                    have d0 := hcc 0 _ rfl
                    have d1 := hcc 1 _ rfl
                    have d2 := hcc 2 _ rfl
                    simp only [Nat.add_zero] at d0
                    rw [hB4] at hW4 HTJ3 hlen4
                    have HLT : Hid (B4.length + 4 ≤ 1000000) := Lib.hid (by omega)
                    have HU1 := Lib.hid (fun V (h : EvB V.heap.size V) => wsmall za ia V h.here)
                    have HU2 := Lib.hid (fun V (h : EvB V.heap.size V) => wsmall zb ib V h.here)
                    have HN1 := Lib.hid (fun V (h : EvB V.heap.size V) => wnum zq iq V h.here)
                    subst hA3
                    clear hz hTJ3 hB4 hlen4 hmem ia ib iq hcc
                    have hal := since_alloc (Below.refl _ wr) (.cells #[.int .i64 za, .int .i64 zb, .int .i64 zq] 101)
                    have hqx := heap_alloc_new wr (.cells #[.int .i64 za, .int .i64 zb, .int .i64 zq] 101)
                    obtain ⟨q, hq⟩ : ∃ q, wr.heap.size = q := ⟨_, rfl⟩
                    rw [hq] at hqx
                    obtain ⟨Y2, hY2⟩ : ∃ Y2, wr.alloc (.cells #[.int .i64 za, .int .i64 zb, .int .i64 zq] 101) = Y2 := ⟨_, rfl⟩
                    have hW5 := hW4.below hal
                    rw [hY2] at hqx hW5
                    have HQ := Lib.hid hq
                    have HY2 := Lib.hid hY2
                    have HW5 := Lib.hid hW5
                    obtain ⟨R, hR⟩ : ∃ R, obS A4 B4 c4 = R := ⟨_, rfl⟩
                    have hTR := Tt.refl hW5.s
                    rw [hR] at hTR
                    have HTR := Lib.hid hTR
                    have HRE := Lib.hid hR
                    have HFX : Hid (∀ V, Chg g R Y2 V → V.heap[q]? = some (.cells #[.int .i64 za, .int .i64 zb, .int .i64 zq] 101 (0, 0))) := Lib.hid fun V hC => by
                      rw [← hR] at hC
                      exact hW5.s.keep hC hqx (fun cs t f e => by injection e with _ e2 _; subst e2; decide)
                    have HTY : Hid (∀ V A' c' L', Tt b g R A' c' L' Y2 V → Tt b g none A' c' L' Y V) := Lib.hid fun V A' c' L' h => by
                      rw [← hR] at h
                      exact hW5.trans h
                    have HEVT : Hid (∀ V, Chg g R Y2 V → EvB V.heap.size V) := Lib.hid fun V hC => by
                      rw [← hR] at hC
                      exact (HEVT0.out V (hW5.chg.trans hC hW5.row)).1
                    have HBT : Hid (∀ V, Chg g R Y2 V → b ≤ V.heap.size) := Lib.hid fun V hC => by
                      rw [← hR] at hC
                      exact (HEVT0.out V (hW5.chg.trans hC hW5.row)).2
                    clear hal hqx hq hY2 hW5 hR hTR hW4 hB hxb
                    go_upto_region 22 with fail
                    rw [HY2.out, HQ.out]
                    have HF : Hid (∀ V, Chg g R Y2 V → V.cell? ⟨q, 0, none⟩ = some (.int .i64 za) ∧ V.cell? ⟨q, 0 + 1, none⟩ = some (.int .i64 zb) ∧ V.cell? ⟨q, 0 + 2, none⟩ = some (.int .i64 zq) ∧ q < V.heap.size) := Lib.hid fun V hC => by
                      have h := HFX.out V hC
                      exact ⟨(cell_of_row V _ 0 _ _ (0, 0) h).trans rfl, (cell_of_row V _ 1 _ _ (0, 0) h).trans rfl, (cell_of_row V _ 2 _ _ (0, 0) h).trans rfl, (Array.getElem?_eq_some_iff.1 h).1⟩
                    refine wp_region_held_drew (S := (fun V => Chg g R Y2 V)) (by kernel_rfl) (by exact (Chg.of_below (Below.refl _ Y2).drew)) (fun hHeld => ?_)
                    refine tkZ (i := 0) (oi := ⟨some 82, _, _, _, _, _⟩) (v := ?_) rfl (by kernel_rfl) (fun _ _ _ h => h) (Or.inl ⟨by rfl, ?_⟩) hHeld ?_
                    rotate_left
                    · (intro w hSw; obtain ⟨p0, p1, p2, pl⟩ := HF.out _ (hSw); go_simp <;> with_reducible rfl)
                    try simp only [pqZ]
                    refine tkZ (i := 1) (oi := ⟨some 83, _, _, _, _, _⟩) (v := ?_) rfl (by kernel_rfl) (fun _ _ _ h => h) (Or.inl ⟨by rfl, ?_⟩) hHeld ?_
                    rotate_left
                    · (intro w hSw; obtain ⟨p0, p1, p2, pl⟩ := HF.out _ (hSw); go_simp <;> with_reducible rfl)
                    try simp only [pqZ]
                    refine tkZ (i := 2) (oi := ⟨some 84, _, _, _, _, _⟩) (v := ?_) rfl (by kernel_rfl) (fun _ _ _ h => h) (Or.inl ⟨by rfl, ?_⟩) hHeld ?_
                    rotate_left
                    · (intro w hSw; obtain ⟨p0, p1, p2, pl⟩ := HF.out _ (hSw); go_simp <;> with_reducible rfl)
                    try simp only [pqZ]
                    refine tkZ (i := 4) (oi := ⟨some 86, _, _, _, _, _⟩) (v := ?_) rfl (by kernel_rfl) (fun _ _ _ h => h) (Or.inl ⟨by rfl, ?_⟩) hHeld ?_
                    rotate_left
                    · (intro w hSw; obtain ⟨p0, p1, p2, pl⟩ := HF.out _ (hSw); go_simp <;> with_reducible rfl)
                    try simp only [pqZ]
                    refine tkZ (i := 5) (oi := ⟨some 87, _, _, _, _, _⟩) (v := ?_) rfl (by kernel_rfl) (fun _ _ _ h => h) (Or.inl ⟨by rfl, ?_⟩) hHeld ?_
                    rotate_left
                    · (intro w hSw; obtain ⟨p0, p1, p2, pl⟩ := HF.out _ (hSw); go_simp <;> with_reducible rfl)
                    try simp only [pqZ]
                    refine tkZ (i := 7) (oi := ⟨some 89, _, _, _, _, _⟩) (v := ?_) rfl (by kernel_rfl) (fun _ _ _ h => h) (Or.inl ⟨by rfl, ?_⟩) hHeld ?_
                    rotate_left
                    · (intro w hSw; obtain ⟨p0, p1, p2, pl⟩ := HF.out _ (hSw); go_simp <;> with_reducible rfl)
                    try simp only [pqZ]
                    refine tkZ (i := 8) (oi := ⟨some 90, _, _, _, _, _⟩) (v := ?_) rfl (by kernel_rfl) (fun _ _ _ h => h) (Or.inl ⟨by rfl, ?_⟩) hHeld ?_
                    rotate_left
                    · (intro w hSw; obtain ⟨p0, p1, p2, pl⟩ := HF.out _ (hSw); go_simp <;> with_reducible rfl)
                    try simp only [pqZ]
                    refine wpAnyH_ready (rs := [3]) (by kernel_rfl) (by simp) ?_
                    refine AllReadyH.cons (o := ⟨some 85, _, _, _, _, _⟩) rfl (fun K hK => ?_) AllReadyH.nil
                    go_simp
                    refine (HU1.out _ (HEVT.out _ hHeld)).mono ?_
                    rintro e y1 ⟨rfl, hb1⟩
                    have hT1 := (HTR.out.below (Below.refl _ Y2).drew).below hb1
                    have hKeep := hT1.chg
                    clear hb1
                    go_wp2_with fail
                    refine hK.out _ _ (by (try dsimp only); exact hKeep) (fun hHeld => ?_)
                    clear hK K hKeep
                    try simp only [pqZ]
                    refine wpAnyH_ready (rs := [6]) (by kernel_rfl) (by simp) ?_
                    refine AllReadyH.cons (o := ⟨some 88, _, _, _, _, _⟩) rfl (fun K hK => ?_) AllReadyH.nil
                    go_simp
                    refine (HU2.out _ (HEVT.out _ hHeld)).mono ?_
                    rintro e y2 ⟨rfl, hb2⟩
                    have hT2 := hT1.below hb2
                    have hKeep := hT2.chg
                    clear hb2
                    go_wp2_with fail
                    refine hK.out _ _ (by (try dsimp only); exact hKeep) (fun hHeld => ?_)
                    clear hK K hKeep
                    try simp only [pqZ]
                    refine wpAnyH_ready (rs := [9]) (by kernel_rfl) (by simp) ?_
                    refine AllReadyH.cons (o := ⟨some 91, _, _, _, _, _⟩) rfl (fun K hK => ?_) AllReadyH.nil
                    go_simp
                    refine (HN1.out _ (HEVT.out _ hHeld)).mono ?_
                    rintro e y3 ⟨rfl, hb3⟩
                    have hT3 := hT2.below hb3
                    have hKeep := hT3.chg
                    clear hb3
                    go_wp2_with fail
                    refine hK.out _ _ (by (try dsimp only); exact hKeep) (fun hHeld => ?_)
                    clear hK K hKeep
                    try simp only [pqZ]
                    refine wpAnyH_ready (rs := [10]) (by kernel_rfl) (by simp) ?_
                    refine AllReadyH.cons (o := ⟨some 92, _, _, _, _, _⟩) rfl (fun K hK => ?_) AllReadyH.nil
                    have hHd := hHeld
                    obtain ⟨p0, p1, p2, pl⟩ := HF.out _ (hHd)
                    have hal7 := since_alloc (Below.refl _ y3) (.cells (strs [[108, 111, 116], Lib.itoa za, Lib.itoa zb, Lib.itoa zq]).toArray 9)
                    have hT4 := hT3.below hal7
                    have hKeep : Chg g R Y2 (y3.alloc (.cells #[.string (S8 ([108, 111, 116])), .string (S8 (Lib.itoa za)), .string (S8 (Lib.itoa zb)), .string (S8 (Lib.itoa zq))] 9)) := hT4.chg
                    clear hal7
                    go_simp
                    refine hK.out _ _ (by (try dsimp only); exact hKeep) (fun hHeld => ?_)
                    clear hK K hKeep
                    try simp only [pqZ]
                    refine wpAnyH_ready (rs := [11]) (by kernel_rfl) (by simp) ?_
                    refine AllReadyH.cons (o := ⟨some 93, _, _, _, _, _⟩) rfl (fun K hK => ?_) AllReadyH.nil
                    go_simp
                    refine (tadd b g A4 c4 B4 (some ⟨y3.heap.size, 0, none⟩) 4 [[108, 111, 116], Lib.itoa za, Lib.itoa zb, Lib.itoa zq] (y3.alloc (.cells (strs [[108, 111, 116], Lib.itoa za, Lib.itoa zb, Lib.itoa zq]).toArray 9)) hT4.s (HBT.out _ hT4.chg) HLT.out (Sl.new_ _ _ _)).mono ?_
                    rintro e y5 ⟨rfl, A8, c8, hT⟩
                    have hT5 := hT4.trans hT
                    have hKeep : Chg g R Y2 y5 := hT5.chg
                    clear hT
                    go_wp2_with fail
                    refine hK.out _ _ (by (try dsimp only); exact hKeep) (fun hHeld => ?_)
                    clear hK K hKeep
                    try simp only [pqZ]
                    refine wpAnyH_done (by kernel_rfl) ?_ _
                    have hTB := hT5
                    clear hT1 hT2 hT3 hT4 hT5 hHeld
                    have hWN := HTY.out _ _ _ _ hTB
                    have hTJ2 := HTJ3.out
                    unfold loW at hTJ2
                    rw [← hTJ2] at hWN
                    clear hTB hTJ2
                    go_wp2_with fail
                    go_roundw
                    case rel => exact ⟨i + 1, _, _, by omega, by go_num, hWN⟩
                    case measure => simp [intOf]; omega
                  · obtain rfl : i = xl.length := by omega
                    rw [List.take_length, HTJ5.out] at hW4
                    have hWN := hW4
                    clear hW4
                    go_wp2_with fail
                    go_roundw
                    case rel => exact ⟨j + 1, _, _, by omega, by go_num, hWN⟩
                    case measure => simp [intOf]; omega
              · obtain rfl : j = rets.length := by omega
                rw [List.take_length] at hW4
                rw [← HRW.out] at hW4
                have hL := HLR.out
                have hjl := join_le RW [32] hL.2
                have hJl : (Lib.join RW [32]).length ≤ 10000000 := by
                  have : (44 + ([32] : List UInt8).length) * RW.length ≤ 45 * 50000 := Nat.mul_le_mul (by simp) hL.1
                  omega
                have HD := Lib.hid (wline b g A4 c4 RW wr hW4.s (by have := hL.1; omega) (by have := HNE.out; exact this) (by omega))
                have HB9 := Lib.hid (HKY.out wr hW4.chg).2
                have hb9 := (HEVT0.out wr hW4.chg).2
                have HG9 := Lib.hid hb9
                obtain ⟨J, hJ⟩ : ∃ J, Lib.join RW [32] = J := ⟨_, rfl⟩
                rw [hJ] at HD
                have HJE : Hid (replyB er nums debs rets = J) := Lib.hid (by rw [HRB.out, hJ])
                clear hW4 hL hjl hJl hJ hb9
                go_wp2_with fail
                refine HD.out.mono ?_
                rintro e v9 ⟨rfl, hb9⟩
                have hB9 := HB9.out.trans (hb9.mono HG9.out)
                clear HD
                go_wp2_with fail
                go_ret
                exact ⟨by rw [HJE.out]; rfl, hB9⟩
end Go.Proofs.YtpmnjojednbnpaaGreatDoor
end
