import Derived.Test.YtpmnjojednbnpaaGreatDoorWr17
import Derived.Test.YtpmnjojednbnpaaGreatDoorWr18
section
namespace Go.Proofs.YtpmnjojednbnpaaGreatDoor
open Go.ChangeShapes Go.WideShapes Go.ChangeAt Go.RowKit
set_option linter.unusedVariables false
set_option linter.unusedSimpArgs false

theorem txt_itoa (n : Int) : txt n = Lib.itoa n := by
  unfold txt Lib.itoa
  split
  · rename_i h
    have e : (-n).toNat = n.natAbs := by omega
    simp [e]
  · rename_i h
    have e : n.toNat = n.natAbs := by omega
    simp [e]
theorem eq_S8 {r : ByteArray} {l : List UInt8} (h : r.data.toList = l) : r = S8 l := by
  subst h
  rfl
set_option maxHeartbeats 4000000 in
set_option maxRecDepth 100000 in
theorem rnum40 (n : Int) (hn : In64p n) (w : World) :
    Calls Tryz.prog 35 #[.int .i64 n] w fun e w' => e = .returned (.string (S8 (Lib.itoa n))) ∧ Below w.heap.size w w' := by
  have HO := Lib.hid (bof_any n w ⟨hn.1, hn.2⟩)
  have HI : Hid (In128 n) := Lib.hid (by unfold In64p at hn; unfold In128; omega)
  clear hn
  go_enter Tryz.func35, Tryz.ntmps35
  go_wp2_with fail
  refine HO.out.mono ?_
  rintro e w1 ⟨⟨s, A, k, c, rfl, _, hX⟩, hb1⟩
  have HD := Lib.hid (digits_any n HI.out s A k c w1 hX)
  clear hX HO
  go_wp2_with fail
  refine HD.out.mono ?_
  rintro e w2 ⟨⟨r, rfl, hr⟩, hb2⟩
  have HR : Hid (r = S8 (Lib.itoa n)) := Lib.hid (eq_S8 (by rw [hr, txt_itoa]))
  have hB := since_step hb1 hb2
  clear hr HD
  go_wp2_with fail
  go_ret
  exact ⟨by rw [HR.out]; rfl, hB⟩
set_option maxHeartbeats 4000000 in
set_option maxRecDepth 100000 in
theorem runit40 (a b : Int) (ha : In64p a) (hb : In64p b) (w : World) :
    Calls Tryz.prog 37 #[.agg #[.int .i64 a, .int .i64 b]] w fun e w' => e = .returned (.string (S8 (unitB a b))) ∧ Below w.heap.size w w' := by
  have hal := since_alloc (Below.refl _ w) (.cells #[.int .i64 a, .int .i64 b] 23)
  have hx := heap_alloc_new w (.cells #[.int .i64 a, .int .i64 b] 23)
  obtain ⟨Y, hY⟩ : ∃ Y, w.alloc (.cells #[.int .i64 a, .int .i64 b] 23) = Y := ⟨_, rfl⟩
  rw [hY] at hal hx
  have HY := Lib.hid hY
  have HAL := Lib.hid hal
  have HF : Hid (∀ V, Below Y.heap.size Y V → V.cell? ⟨w.heap.size, 0, none⟩ = some (.int .i64 a) ∧ V.cell? ⟨w.heap.size, 0 + 1, none⟩ = some (.int .i64 b) ∧ w.heap.size < V.heap.size) := Lib.hid fun V hV => by
    have h := (hV.block _ (Array.getElem?_eq_some_iff.1 hx).1).trans hx
    exact ⟨(cell_of_row V _ 0 _ _ (0, 0) h).trans rfl, (cell_of_row V _ 1 _ _ (0, 0) h).trans rfl, (Array.getElem?_eq_some_iff.1 h).1⟩
  have HS1 := Lib.hid (fun V => rnum40 a ha V)
  have HS2 := Lib.hid (fun V => rnum40 b hb V)
  have la := itoa_len a ha
  have lb := itoa_len b hb
  have HU : Hid (unitB a b = Lib.itoa a ++ 46 :: Lib.itoa b) := Lib.hid rfl
  generalize Lib.itoa a = DA at *
  generalize Lib.itoa b = DB at *
  have hs1 := add_strW DA [46] (by simp; omega)
  have hs2 := add_strW (DA ++ [46]) DB (by simp; omega)
  have hpt : S8 [46] = (⟨#[46]⟩ : ByteArray) := rfl
  rw [hpt] at hs1
  clear hpt hal hx hY la lb ha hb
  go_enter Tryz.func37, Tryz.ntmps37
  go_upto_region 1 with fail
  rw [HY.out]
  refine wp_region_held_drew (S := (fun V => Below Y.heap.size Y V)) (by kernel_rfl) (by exact (Below.refl _ _).drew) (fun hHeld => ?_)
  refine tkZ (i := 0) (oi := ⟨some 3, _, _, _, _, _⟩) (v := ?_) rfl (by kernel_rfl) (fun _ _ _ h => h) (Or.inl ⟨by rfl, ?_⟩) hHeld ?_
  rotate_left
  · (intro w hSw; obtain ⟨p0, p1, pl⟩ := HF.out _ (hSw); go_simp <;> with_reducible rfl)
  try simp only [pqZ]
  refine tkZ (i := 1) (oi := ⟨some 4, _, _, _, _, _⟩) (v := ?_) rfl (by kernel_rfl) (fun _ _ _ h => h) (Or.inl ⟨by rfl, ?_⟩) hHeld ?_
  rotate_left
  · (intro w hSw; obtain ⟨p0, p1, pl⟩ := HF.out _ (hSw); go_simp <;> with_reducible rfl)
  try simp only [pqZ]
  refine tkZ (i := 4) (oi := ⟨some 7, _, _, _, _, _⟩) (v := ?_) rfl (by kernel_rfl) (fun _ _ _ h => h) (Or.inl ⟨by rfl, ?_⟩) hHeld ?_
  rotate_left
  · (intro w hSw; obtain ⟨p0, p1, pl⟩ := HF.out _ (hSw); go_simp <;> with_reducible rfl)
  try simp only [pqZ]
  refine tkZ (i := 5) (oi := ⟨some 8, _, _, _, _, _⟩) (v := ?_) rfl (by kernel_rfl) (fun _ _ _ h => h) (Or.inl ⟨by rfl, ?_⟩) hHeld ?_
  rotate_left
  · (intro w hSw; obtain ⟨p0, p1, pl⟩ := HF.out _ (hSw); go_simp <;> with_reducible rfl)
  try simp only [pqZ]
  refine wpAnyH_ready (rs := [2]) (by kernel_rfl) (by simp) ?_
  refine AllReadyH.cons (o := ⟨some 5, _, _, _, _, _⟩) rfl (fun K hK => ?_) AllReadyH.nil
  go_simp
  refine (HS1.out _).mono ?_
  rintro e y1 ⟨rfl, hb1⟩
  have hKeep := since_step hHeld hb1
  clear hb1
  go_wp2_with fail
  refine hK.out _ _ (by (try dsimp only); exact hKeep) (fun hHeld => ?_)
  clear hK K hKeep
  try simp only [pqZ]
  refine tkZ (i := 3) (oi := ⟨some 6, _, _, _, _, _⟩) (v := ?_) rfl (by kernel_rfl) (fun _ _ _ h => h) (Or.inl ⟨by rfl, ?_⟩) hHeld ?_
  rotate_left
  · (intro w hSw; obtain ⟨p0, p1, pl⟩ := HF.out _ (hSw); go_simp <;> with_reducible rfl)
  try simp only [pqZ]
  refine wpAnyH_ready (rs := [6]) (by kernel_rfl) (by simp) ?_
  refine AllReadyH.cons (o := ⟨some 9, _, _, _, _, _⟩) rfl (fun K hK => ?_) AllReadyH.nil
  go_simp
  refine (HS2.out _).mono ?_
  rintro e y2 ⟨rfl, hb2⟩
  have hKeep := since_step hHeld hb2
  clear hb2
  go_wp2_with fail
  refine hK.out _ _ (by (try dsimp only); exact hKeep) (fun hHeld => ?_)
  clear hK K hKeep
  try simp only [pqZ]
  refine tkZ (i := 7) (oi := ⟨some 10, _, _, _, _, _⟩) (v := ?_) rfl (by kernel_rfl) (fun _ _ _ h => h) (Or.inl ⟨by rfl, ?_⟩) hHeld ?_
  rotate_left
  · (intro w hSw; obtain ⟨p0, p1, pl⟩ := HF.out _ (hSw); go_simp <;> with_reducible rfl)
  try simp only [pqZ]
  refine tkZ (i := 8) (oi := ⟨some 2, _, _, _, _, _⟩) (v := ?_) rfl (by kernel_rfl) (fun _ _ _ h => h) (Or.inl ⟨by rfl, ?_⟩) hHeld ?_
  rotate_left
  · (intro w hSw; obtain ⟨p0, p1, pl⟩ := HF.out _ (hSw); go_simp <;> with_reducible rfl)
  try simp only [pqZ]
  refine wpAnyH_done (by kernel_rfl) ?_ _
  have hB := since_step HAL.out hHeld
  go_wp2_with fail
  go_ret
  exact ⟨by rw [HU.out]; simp, hB⟩
def jn (L : List (List UInt8)) : List UInt8 := L.flatMap fun x => 32 :: x
theorem join_jn (x : List UInt8) (L : List (List UInt8)) : Lib.join (x :: L) [32] = x ++ jn L := by
  rw [Lib.join_cons]
  congr 1
theorem join_more (H M : List (List UInt8)) (h : H ≠ []) : Lib.join (H ++ M) [32] = Lib.join H [32] ++ jn M := by
  match H, h with
  | x :: r, _ =>
    rw [List.cons_append, join_jn, join_jn]
    unfold jn
    rw [List.flatMap_append, List.append_assoc]
theorem join_len {n : Nat} {L : List (List UInt8)} (h : Lw n L) (hn : n ≤ 100000) : (Lib.join L [32]).length ≤ 10000000 := by
  have h1 := join_le L [32] h.2
  have : (44 + ([32] : List UInt8).length) * L.length ≤ 45 * 100000 := Nat.mul_le_mul (by simp) (Nat.le_trans h.1 hn)
  omega
theorem Lw.flatT {α : Type} {n m : Nat} {f : α → List (List UInt8)} {l : List α} (h : ∀ x ∈ l, Lw n (f x)) (hl : l.length ≤ m) (k : Nat) : Lw (n * m) ((l.take k).flatMap f) :=
  (Lw.flat fun x hx => h x (List.mem_of_mem_take hx)).up (Nat.mul_le_mul_left _ (by rw [List.length_take]; omega))
set_option maxHeartbeats 32000000 in
set_option maxRecDepth 100000 in
theorem rreplyE (er : Int) (A1 A2 A3 : Option Addr) (c1 c2 c3 : Nat) (nums : List Int) (debs : List Db) (rets : List Rn) (w : World) (her : In64p er) (h1 : ∀ x ∈ nums, In64p x) (h2 : ∀ x ∈ debs, x.in64) (h3 : ∀ x ∈ rets, x.ok w) (hn : nums.length ≤ 100) (hd : debs.length ≤ 100) (hr : rets.length ≤ 100) (s1 : Sl w A1 (ints .i64 nums)) (s2 : Sl w A2 (rc Db.cells debs)) (s3 : Sl w A3 (rc Rn.cells rets)) :
    Calls Tryz.prog 18 #[.agg #[.int .i64 er, .slice A1 nums.length c1, .slice A2 debs.length c2, .slice A3 rets.length c3]] w fun e w' => e = .returned (.string (S8 (replyB er nums debs rets))) ∧ Below w.heap.size w w' := by
  obtain ⟨b, hb⟩ : ∃ b, w.heap.size = b := ⟨_, rfl⟩
  have hx0 : (w.alloc (.cells #[.int .i64 er, .slice A1 nums.length c1, .slice A2 debs.length c2, .slice A3 rets.length c3] 48)).heap[b]? = some (.cells #[.int .i64 er, .slice A1 nums.length c1, .slice A2 debs.length c2, .slice A3 rets.length c3] 48 (0, 0)) := by rw [← hb]; exact heap_alloc_new w _
  have hB0 : Below w.heap.size w (w.alloc (.cells #[.int .i64 er, .slice A1 nums.length c1, .slice A2 debs.length c2, .slice A3 rets.length c3] 48)) := since_alloc (Below.refl _ w) _
  have HBW := Lib.hid hb
  have HSL : Hid (∀ V, Below b w V → Sl V A1 (ints .i64 nums) ∧ Sl V A2 (rc Db.cells debs) ∧ Sl V A3 (rc Rn.cells rets) ∧ ∀ x ∈ rets, x.ok V) := Lib.hid fun V hV => by
    rw [← hb] at hV
    exact ⟨s1.below hV, s2.below hV, s3.below hV, fun x hx => (h3 x hx).below hV⟩
  have HI1 := Lib.hid h1
  have HI2 := Lib.hid h2
  rw [hb] at hB0 ⊢
  obtain ⟨Y, hY⟩ : ∃ Y, w.alloc (.cells #[.int .i64 er, .slice A1 nums.length c1, .slice A2 debs.length c2, .slice A3 rets.length c3] 48) = Y := ⟨_, rfl⟩
  rw [hY] at hx0 hB0
  have HYE := Lib.hid hY
  have hlt0 := (Array.getElem?_eq_some_iff.1 hx0).1
  have HKY : Hid (∀ V, Below Y.heap.size Y V → V.heap[b]? = some (.cells #[.int .i64 er, .slice A1 nums.length c1, .slice A2 debs.length c2, .slice A3 rets.length c3] 48 (0, 0)) ∧ Below b w V) := Lib.hid fun V hC => ⟨(hC.block b hlt0).trans hx0, hB0.trans (hC.mono (by omega))⟩
  have HCE : Hid (∀ V, Below Y.heap.size Y V → V.cell? ⟨b, 0, none⟩ = some (.int .i64 er) ∧ V.cell? ⟨b, 0 + 1, none⟩ = some (.slice A1 nums.length c1) ∧ V.cell? ⟨b, 0 + 2, none⟩ = some (.slice A2 debs.length c2) ∧ V.cell? ⟨b, 0 + 3, none⟩ = some (.slice A3 rets.length c3) ∧ b < V.heap.size) := Lib.hid fun V hC => by
    have h := (HKY.out V hC).1
    exact ⟨(cell_of_row V _ 0 _ _ (0, 0) h).trans rfl, (cell_of_row V _ 1 _ _ (0, 0) h).trans rfl, (cell_of_row V _ 2 _ _ (0, 0) h).trans rfl, (cell_of_row V _ 3 _ _ (0, 0) h).trans rfl, (Array.getElem?_eq_some_iff.1 h).1⟩
  have HNR : Hid (∀ x ∈ nums, ∀ V, Calls Tryz.prog 35 #[.int .i64 x] V fun e w' => e = .returned (.string (S8 (Lib.itoa x))) ∧ Below V.heap.size V w') := Lib.hid fun x hx V => rnum40 x (HI1.out x hx) V
  have HSM := Lib.hid (fun V => rnum40 er her V)
  have HHD : Hid (Lib.join (headW er) [32] = if er = 0 then okW8 else errW8 ++ 32 :: Lib.itoa er) := Lib.hid (by
    unfold headW
    split
    · rw [Lib.join_one]
    · rw [join_jn]; simp [jn])
  have HE21 := Lib.hid (itoa_len er her)
  have HRB : Hid (replyB er nums debs rets = Lib.join (headW er ++ nums.map Lib.itoa ++ debs.flatMap dbW ++ rets.flatMap rnW) [32]) := Lib.hid rfl
  have HNE : Hid (headW er ≠ []) := Lib.hid (by unfold headW; split <;> simp)
  have hL1 : Lw 102 (headW er ++ nums.map Lib.itoa) := ((headW_lw her).app (nums_lw h1)).up (by omega)
  have HL1 : Hid (∀ k, Lw 202 (headW er ++ (nums.take k).map Lib.itoa)) := Lib.hid fun k => ((headW_lw her).app (nums_lw (nums := nums.take k) (fun x hx => h1 x (List.mem_of_mem_take hx)))).up (by rw [List.length_take]; omega)
  have HL2 : Hid (∀ k, Lw 502 (headW er ++ nums.map Lib.itoa ++ (debs.take k).flatMap dbW)) := Lib.hid fun k => (hL1.app (Lw.flatT (n := 4) (m := 100) (fun x hx => dbW_lw (h2 x hx)) hd k)).up (by omega)
  have hL3 : Lw 502 (headW er ++ nums.map Lib.itoa ++ debs.flatMap dbW) := by
    have := HL2.out debs.length
    rwa [List.take_length] at this
  have HL3 : Hid (∀ k, Lw 50000 (headW er ++ nums.map Lib.itoa ++ debs.flatMap dbW ++ (rets.take k).flatMap rnW)) := Lib.hid fun k => (hL3.app (Lw.flatT (n := 403) (m := 100) (fun x hx => rnW_lw (h3 x hx)) hr k)).up (by omega)
  clear her hb s1 s2 s3 h1 h2 h3 hL1 hL3 hlt0 hx0 hB0 hY
  obtain ⟨H0, hH0⟩ : ∃ H0, headW er = H0 := ⟨_, rfl⟩
  rw [hH0] at HHD HRB HNE HL1 HL2 HL3
  clear hH0
  go_enter Tryz.func18, Tryz.ntmps18
  go_upto_region 2 with fail
  rw [HYE.out, HBW.out]
  clear HBW HYE
  obtain ⟨k0, k1, k2, k3, kl⟩ := HCE.out Y (Below.refl _ _)
  go_upto_if 12 with fail
  go_cut [3] (fun sv wx => sv = .string (S8 (Lib.join H0 [32])) ∧ Below Y.heap.size Y wx)
  case first =>
    by_cases hz : er = 0
    · have he : (er == 0) = true := by rw [beq_iff_eq]; exact hz
      have hH : Hid (S8 (Lib.join H0 [32]) = (⟨#[111, 107]⟩ : ByteArray)) := Lib.hid (by rw [HHD.out, if_pos hz]; rfl)
      clear hz
      go_wp2_with fail
      go_meet
      case rel => exact ⟨by rw [hH.out], Below.refl _ _⟩
    · have he : (er == 0) = false := by rw [beq_eq_false_iff_ne]; exact hz
      obtain ⟨X1, hX1⟩ : ∃ X, [101, 114, 114, 111, 114, 32] ++ Lib.itoa er = X := ⟨_, rfl⟩
      have hH : Hid (S8 (Lib.join H0 [32]) = S8 X1) := Lib.hid (by rw [HHD.out, if_neg hz, ← hX1]; rfl)
      have ad : ∀ W, (Op.stringOp .add (⟨#[101, 114, 114, 111, 114, 32]⟩ : ByteArray) (S8 (Lib.itoa er))).run Tryz.prog W = .ok (.string (S8 X1)) W := by rw [← hX1]; exact add_strW [101, 114, 114, 111, 114, 32] (Lib.itoa er) (by have := HE21.out; simp; omega)
      clear hX1
      clear hz
      go_wp2_with fail
      refine (HSM.out _).mono ?_
      rintro e y1 ⟨rfl, hb1⟩
      go_wp2_with fail
      go_meet
      case rel => exact ⟨by rw [hH.out], hb1⟩
  case rest =>
    obtain ⟨rfl, hT⟩ := hcut
    have HT := Lib.hid hT
    clear k0 k1 k2 k3 kl
    obtain ⟨k0, k1, k2, k3, kl⟩ := HCE.out _ hT
    clear hT
    go_wp2_with fail
    clear k0 k1 k2 k3 kl
    go_loopw [3, 4] (fun sv iv wr => ∃ (j : Nat), j ≤ nums.length ∧ iv = .int .i64 (j : Int) ∧ sv = .string (S8 (Lib.join (H0 ++ ((nums.take j).map Lib.itoa)) [32])) ∧ Below Y.heap.size Y wr) (fun _ iv _ => nums.length - (intOf iv).toNat)
    case atStart => exact ⟨0, by omega, rfl, by simp, HT.out⟩
    case round =>
      clear HT
      obtain ⟨j, hj1, rfl, rfl, hW4⟩ := hrel
      by_cases hj : j < nums.length
      · have hjl : (j : Int) < (nums.length : Int) := by omega
        have hj0 : (0 : Int) ≤ (j : Int) := by omega
        obtain ⟨hxb, hB⟩ := HKY.out wr hW4
        obtain ⟨b2, o2, hA2, c0⟩ := (HSL.out wr hB).1.int hj
        obtain ⟨x, hx⟩ : ∃ x, nums[j] = x := ⟨_, rfl⟩
        have hmem : x ∈ nums := by rw [← hx]; exact List.getElem_mem hj
        have hTJ : (H0 ++ (nums.take (j + 1)).map Lib.itoa) = (H0 ++ (nums.take j).map Lib.itoa) ++ [Lib.itoa x] := by rw [take_snoc nums j hj, List.map_append, ← List.append_assoc, hx]; rfl
        have HNM := Lib.hid (HNR.out x hmem)
        rw [hx] at c0
        have hl2 := itoa_len x (HI1.out x hmem)
        have hTl := join_len (HL1.out j) (by omega)
        obtain ⟨DX, hDX⟩ : ∃ DX, Lib.itoa x = DX := ⟨_, rfl⟩
        obtain ⟨T, hT⟩ : ∃ T, Lib.join (H0 ++ (nums.take j).map Lib.itoa) [32] = T := ⟨_, rfl⟩
        rw [hDX] at HNM hl2 hTJ
        rw [hT] at hTl
        rw [hT]
        obtain ⟨X1, hX1⟩ : ∃ X, T ++ ([32] : List UInt8) = X := ⟨_, rfl⟩
        have lX1 : X1.length = T.length + (([32] : List UInt8)).length := by rw [← hX1, List.length_append]
        simp only [List.length_cons, List.length_nil] at lX1
        have ad0 : ∀ W, (Op.stringOp .add (S8 T) (⟨#[32]⟩ : ByteArray)).run Tryz.prog W = .ok (.string (S8 X1)) W := by rw [← hX1]; exact add_strW T (([32] : List UInt8)) (by simp only [List.length_cons, List.length_nil]; omega)
        obtain ⟨X2, hX2⟩ : ∃ X, X1 ++ DX = X := ⟨_, rfl⟩
        have lX2 : X2.length = X1.length + (DX).length := by rw [← hX2, List.length_append]
        have ad1 : ∀ W, (Op.stringOp .add (S8 X1) (S8 DX)).run Tryz.prog W = .ok (.string (S8 X2)) W := by rw [← hX2]; exact add_strW X1 (DX) (by omega)
        have HEQ : Hid (X2 = T ++ ([32]) ++ (DX)) := Lib.hid (by rw [← hX2]; rw [← hX1])
        clear hX1 hX2 lX1 lX2
        have HTJ : Hid (Value.string (S8 X2) = .string (S8 (Lib.join (H0 ++ (nums.take (j + 1)).map Lib.itoa) [32]))) := Lib.hid (by
          rw [hTJ, join_more _ _ (by have := HNE.out; simp [this]), hT, HEQ.out]; simp [jn])
        have HW4 := Lib.hid hW4
        obtain ⟨k0, k1, k2, k3, kl⟩ := HCE.out wr hW4
        subst hA2
        clear hx hTJ hB hW4 hxb hDX hT hTl hl2 hmem
        go_wp2_with fail
        refine (HNM.out _).mono ?_
        rintro e y1 ⟨rfl, hb1⟩
        have hWN := since_step HW4.out hb1
        clear k0 k1 k2 k3 kl hb1
        go_wp2_with fail
        go_roundw
        case rel => exact ⟨j + 1, by omega, by go_num, HTJ.out, hWN⟩
        case measure => simp [intOf]; omega
      · obtain rfl : j = nums.length := by omega
        rw [List.take_length]
        have HW4 := Lib.hid hW4
        obtain ⟨k0, k1, k2, k3, kl⟩ := HCE.out _ hW4
        clear hW4
        go_wp2_with fail
        clear k0 k1 k2 k3 kl
        go_loopw [3, 5] (fun sv iv wr => ∃ (j : Nat), j ≤ debs.length ∧ iv = .int .i64 (j : Int) ∧ sv = .string (S8 (Lib.join ((H0 ++ nums.map Lib.itoa) ++ ((debs.take j).flatMap dbW)) [32])) ∧ Below Y.heap.size Y wr) (fun _ iv _ => debs.length - (intOf iv).toNat)
        case atStart => exact ⟨0, by omega, rfl, by simp, HW4.out⟩
        case round =>
          clear HW4
          obtain ⟨j, hj1, rfl, rfl, hW4⟩ := hrel
          by_cases hj : j < debs.length
          · have hjl : (j : Int) < (debs.length : Int) := by omega
            have hj0 : (0 : Int) ≤ (j : Int) := by omega
            obtain ⟨hxb, hB⟩ := HKY.out wr hW4
            obtain ⟨b2, o2, hA2, hbw, hcc⟩ := Sl.elem (m := 5) (fun x => rfl) (by decide) (HSL.out wr hB).2.1 hj
            have hmem := List.getElem_mem hj
            obtain ⟨x, hx⟩ : ∃ x, debs[j] = x := ⟨_, rfl⟩
            have hTJ : ((H0 ++ nums.map Lib.itoa) ++ (debs.take (j + 1)).flatMap dbW) = ((H0 ++ nums.map Lib.itoa) ++ (debs.take j).flatMap dbW) ++ dbW x := by rw [take_snoc debs j hj, List.flatMap_append, ← List.append_assoc, hx]; simp
            rw [hx] at hcc hmem
            have hTl := join_len (HL2.out j) (by omega)
            obtain ⟨T, hT⟩ : ∃ T, Lib.join ((H0 ++ nums.map Lib.itoa) ++ (debs.take j).flatMap dbW) [32] = T := ⟨_, rfl⟩
            have hTJ2 : Lib.join ((H0 ++ nums.map Lib.itoa) ++ (debs.take (j + 1)).flatMap dbW) [32] = T ++ jn (dbW x) := by
              rw [hTJ, join_more _ _ (by have := HNE.out; simp [this]), hT]
            rw [hT] at hTl
            rw [hT]
            clear hTJ
            obtain ⟨xa, xb, xc, xd, xq⟩ := x
            obtain ⟨ia, ib, ic, id, iq⟩ := HI2.out _ hmem
            simp only at ia ib ic id iq
            have d0 := hcc 0 _ rfl
            have d1 := hcc 1 _ rfl
            have d2 := hcc 2 _ rfl
            have d3 := hcc 3 _ rfl
            have d4 := hcc 4 _ rfl
            simp only [Nat.add_zero] at d0
            have HU1 := Lib.hid (fun V => runit40 xa xb ia ib V)
            have HU2 := Lib.hid (fun V => runit40 xc xd ic id V)
            have HN1 := Lib.hid (fun V => rnum40 xq iq V)
            have hl1 := unitB_len ia ib
            have hl2 := unitB_len ic id
            have hl3 := itoa_len _ iq
            have hTJ3 : jn (dbW ⟨xa, xb, xc, xd, xq⟩) = [32, 100, 101, 98, 105, 116, 32] ++ unitB xa xb ++ [32] ++ unitB xc xd ++ [32] ++ Lib.itoa xq := by simp [jn, dbW]
            rw [hTJ3] at hTJ2
            obtain ⟨U1, hU1⟩ : ∃ U, unitB xa xb = U := ⟨_, rfl⟩
            obtain ⟨U2, hU2⟩ : ∃ U, unitB xc xd = U := ⟨_, rfl⟩
            obtain ⟨N1, hN1⟩ : ∃ U, Lib.itoa xq = U := ⟨_, rfl⟩
            rw [hU1] at HU1 hl1 hTJ2
            rw [hU2] at HU2 hl2 hTJ2
            rw [hN1] at HN1 hl3 hTJ2
            obtain ⟨X1, hX1⟩ : ∃ X, T ++ ([32, 100, 101, 98, 105, 116, 32] : List UInt8) = X := ⟨_, rfl⟩
            have lX1 : X1.length = T.length + (([32, 100, 101, 98, 105, 116, 32] : List UInt8)).length := by rw [← hX1, List.length_append]
            simp only [List.length_cons, List.length_nil] at lX1
            have ad0 : ∀ W, (Op.stringOp .add (S8 T) (⟨#[32, 100, 101, 98, 105, 116, 32]⟩ : ByteArray)).run Tryz.prog W = .ok (.string (S8 X1)) W := by rw [← hX1]; exact add_strW T (([32, 100, 101, 98, 105, 116, 32] : List UInt8)) (by simp only [List.length_cons, List.length_nil]; omega)
            obtain ⟨X2, hX2⟩ : ∃ X, X1 ++ U1 = X := ⟨_, rfl⟩
            have lX2 : X2.length = X1.length + (U1).length := by rw [← hX2, List.length_append]
            have ad1 : ∀ W, (Op.stringOp .add (S8 X1) (S8 U1)).run Tryz.prog W = .ok (.string (S8 X2)) W := by rw [← hX2]; exact add_strW X1 (U1) (by omega)
            obtain ⟨X3, hX3⟩ : ∃ X, X2 ++ ([32] : List UInt8) = X := ⟨_, rfl⟩
            have lX3 : X3.length = X2.length + (([32] : List UInt8)).length := by rw [← hX3, List.length_append]
            simp only [List.length_cons, List.length_nil] at lX3
            have ad2 : ∀ W, (Op.stringOp .add (S8 X2) (⟨#[32]⟩ : ByteArray)).run Tryz.prog W = .ok (.string (S8 X3)) W := by rw [← hX3]; exact add_strW X2 (([32] : List UInt8)) (by simp only [List.length_cons, List.length_nil]; omega)
            obtain ⟨X4, hX4⟩ : ∃ X, X3 ++ U2 = X := ⟨_, rfl⟩
            have lX4 : X4.length = X3.length + (U2).length := by rw [← hX4, List.length_append]
            have ad3 : ∀ W, (Op.stringOp .add (S8 X3) (S8 U2)).run Tryz.prog W = .ok (.string (S8 X4)) W := by rw [← hX4]; exact add_strW X3 (U2) (by omega)
            obtain ⟨X5, hX5⟩ : ∃ X, X4 ++ ([32] : List UInt8) = X := ⟨_, rfl⟩
            have lX5 : X5.length = X4.length + (([32] : List UInt8)).length := by rw [← hX5, List.length_append]
            simp only [List.length_cons, List.length_nil] at lX5
            have ad4 : ∀ W, (Op.stringOp .add (S8 X4) (⟨#[32]⟩ : ByteArray)).run Tryz.prog W = .ok (.string (S8 X5)) W := by rw [← hX5]; exact add_strW X4 (([32] : List UInt8)) (by simp only [List.length_cons, List.length_nil]; omega)
            obtain ⟨X6, hX6⟩ : ∃ X, X5 ++ N1 = X := ⟨_, rfl⟩
            have lX6 : X6.length = X5.length + (N1).length := by rw [← hX6, List.length_append]
            have ad5 : ∀ W, (Op.stringOp .add (S8 X5) (S8 N1)).run Tryz.prog W = .ok (.string (S8 X6)) W := by rw [← hX6]; exact add_strW X5 (N1) (by omega)
            have HEQ : Hid (X6 = T ++ ([32, 100, 101, 98, 105, 116, 32]) ++ (U1) ++ ([32]) ++ (U2) ++ ([32]) ++ (N1)) := Lib.hid (by rw [← hX6]; rw [← hX5]; rw [← hX4]; rw [← hX3]; rw [← hX2]; rw [← hX1])
            clear hX1 hX2 hX3 hX4 hX5 hX6 lX1 lX2 lX3 lX4 lX5 lX6
            have HTJ : Hid (Value.string (S8 X6) = .string (S8 (Lib.join ((H0 ++ nums.map Lib.itoa) ++ (debs.take (j + 1)).flatMap dbW) [32]))) := Lib.hid (by rw [hTJ2, HEQ.out]; simp)
            subst hA2
            clear hx hmem ia ib ic id iq hcc hTJ3 hTJ2 hU1 hU2 hN1 hl1 hl2 hl3 hTl hT
            have hal := since_alloc (Below.refl _ wr) (.cells #[.int .i64 xa, .int .i64 xb, .int .i64 xc, .int .i64 xd, .int .i64 xq] 99)
            have hqx := heap_alloc_new wr (.cells #[.int .i64 xa, .int .i64 xb, .int .i64 xc, .int .i64 xd, .int .i64 xq] 99)
            obtain ⟨q, hq⟩ : ∃ q, wr.heap.size = q := ⟨_, rfl⟩
            rw [hq] at hqx
            obtain ⟨Y2, hY2⟩ : ∃ Y2, wr.alloc (.cells #[.int .i64 xa, .int .i64 xb, .int .i64 xc, .int .i64 xd, .int .i64 xq] 99) = Y2 := ⟨_, rfl⟩
            have hW5 := since_step hW4 hal
            rw [hY2] at hqx hW5
            have HQ := Lib.hid hq
            have HY2 := Lib.hid hY2
            have HW5 := Lib.hid hW5
            have hqlt := (Array.getElem?_eq_some_iff.1 hqx).1
            have HFX : Hid (∀ V, Below Y2.heap.size Y2 V → V.heap[q]? = some (.cells #[.int .i64 xa, .int .i64 xb, .int .i64 xc, .int .i64 xd, .int .i64 xq] 99 (0, 0))) := Lib.hid fun V hC => (hC.block _ hqlt).trans hqx
            have HF : Hid (∀ V, Below Y2.heap.size Y2 V → V.cell? ⟨q, 0, none⟩ = some (.int .i64 xa) ∧ V.cell? ⟨q, 0 + 1, none⟩ = some (.int .i64 xb) ∧ V.cell? ⟨q, 0 + 2, none⟩ = some (.int .i64 xc) ∧ V.cell? ⟨q, 0 + 3, none⟩ = some (.int .i64 xd) ∧ V.cell? ⟨q, 0 + 4, none⟩ = some (.int .i64 xq) ∧ q < V.heap.size) := Lib.hid fun V hC => by
              have h := HFX.out V hC
              exact ⟨(cell_of_row V _ 0 _ _ (0, 0) h).trans rfl, (cell_of_row V _ 1 _ _ (0, 0) h).trans rfl, (cell_of_row V _ 2 _ _ (0, 0) h).trans rfl, (cell_of_row V _ 3 _ _ (0, 0) h).trans rfl, (cell_of_row V _ 4 _ _ (0, 0) h).trans rfl, (Array.getElem?_eq_some_iff.1 h).1⟩
            obtain ⟨k0, k1, k2, k3, kl⟩ := HCE.out wr hW4
            clear hal hqx hq hY2 hW5 hW4 hB hxb hqlt
            go_upto_region 12 with fail
            rw [HY2.out, HQ.out]
            clear k0 k1 k2 k3 kl
            refine wp_region_held_drew (S := (fun V => Below Y2.heap.size Y2 V)) (by kernel_rfl) (by exact (Below.refl _ _).drew) (fun hHeld => ?_)
            refine tkZ (i := 0) (oi := ⟨some 45, _, _, _, _, _⟩) (v := ?_) rfl (by kernel_rfl) (fun _ _ _ h => h) (Or.inl ⟨by rfl, ?_⟩) hHeld ?_
            rotate_left
            · (intro w hSw; obtain ⟨p0, p1, p2, p3, p4, pl⟩ := HF.out _ (hSw); go_simp <;> with_reducible rfl)
            try simp only [pqZ]
            refine tkZ (i := 1) (oi := ⟨some 46, _, _, _, _, _⟩) (v := ?_) rfl (by kernel_rfl) (fun _ _ _ h => h) (Or.inl ⟨by rfl, ?_⟩) hHeld ?_
            rotate_left
            · (intro w hSw; obtain ⟨p0, p1, p2, p3, p4, pl⟩ := HF.out _ (hSw); go_simp <;> with_reducible rfl)
            try simp only [pqZ]
            refine tkZ (i := 2) (oi := ⟨some 47, _, _, _, _, _⟩) (v := ?_) rfl (by kernel_rfl) (fun _ _ _ h => h) (Or.inl ⟨by rfl, ?_⟩) hHeld ?_
            rotate_left
            · (intro w hSw; obtain ⟨p0, p1, p2, p3, p4, pl⟩ := HF.out _ (hSw); go_simp <;> with_reducible rfl)
            try simp only [pqZ]
            refine tkZ (i := 3) (oi := ⟨some 48, _, _, _, _, _⟩) (v := ?_) rfl (by kernel_rfl) (fun _ _ _ h => h) (Or.inl ⟨by rfl, ?_⟩) hHeld ?_
            rotate_left
            · (intro w hSw; obtain ⟨p0, p1, p2, p3, p4, pl⟩ := HF.out _ (hSw); go_simp <;> with_reducible rfl)
            try simp only [pqZ]
            refine tkZ (i := 7) (oi := ⟨some 52, _, _, _, _, _⟩) (v := ?_) rfl (by kernel_rfl) (fun _ _ _ h => h) (Or.inl ⟨by rfl, ?_⟩) hHeld ?_
            rotate_left
            · (intro w hSw; obtain ⟨p0, p1, p2, p3, p4, pl⟩ := HF.out _ (hSw); go_simp <;> with_reducible rfl)
            try simp only [pqZ]
            refine tkZ (i := 8) (oi := ⟨some 53, _, _, _, _, _⟩) (v := ?_) rfl (by kernel_rfl) (fun _ _ _ h => h) (Or.inl ⟨by rfl, ?_⟩) hHeld ?_
            rotate_left
            · (intro w hSw; obtain ⟨p0, p1, p2, p3, p4, pl⟩ := HF.out _ (hSw); go_simp <;> with_reducible rfl)
            try simp only [pqZ]
            refine tkZ (i := 12) (oi := ⟨some 57, _, _, _, _, _⟩) (v := ?_) rfl (by kernel_rfl) (fun _ _ _ h => h) (Or.inl ⟨by rfl, ?_⟩) hHeld ?_
            rotate_left
            · (intro w hSw; obtain ⟨p0, p1, p2, p3, p4, pl⟩ := HF.out _ (hSw); go_simp <;> with_reducible rfl)
            try simp only [pqZ]
            refine tkZ (i := 13) (oi := ⟨some 58, _, _, _, _, _⟩) (v := ?_) rfl (by kernel_rfl) (fun _ _ _ h => h) (Or.inl ⟨by rfl, ?_⟩) hHeld ?_
            rotate_left
            · (intro w hSw; obtain ⟨p0, p1, p2, p3, p4, pl⟩ := HF.out _ (hSw); go_simp <;> with_reducible rfl)
            try simp only [pqZ]
            refine wpAnyH_ready (rs := [4]) (by kernel_rfl) (by simp) ?_
            refine AllReadyH.cons (o := ⟨some 49, _, _, _, _, _⟩) rfl (fun K hK => ?_) AllReadyH.nil
            go_simp
            refine (HU1.out _).mono ?_
            rintro e y1 ⟨rfl, hb1⟩
            have hKeep := since_step hHeld hb1
            clear hb1
            go_wp2_with fail
            refine hK.out _ _ (by (try dsimp only); exact hKeep) (fun hHeld => ?_)
            clear hK K hKeep
            try simp only [pqZ]
            refine tkZ (i := 5) (oi := ⟨some 50, _, _, _, _, _⟩) (v := ?_) rfl (by kernel_rfl) (fun _ _ _ h => h) (Or.inl ⟨by rfl, ?_⟩) hHeld ?_
            rotate_left
            · (intro w hSw; obtain ⟨p0, p1, p2, p3, p4, pl⟩ := HF.out _ (hSw); go_simp <;> with_reducible rfl)
            try simp only [pqZ]
            refine tkZ (i := 6) (oi := ⟨some 51, _, _, _, _, _⟩) (v := ?_) rfl (by kernel_rfl) (fun _ _ _ h => h) (Or.inl ⟨by rfl, ?_⟩) hHeld ?_
            rotate_left
            · (intro w hSw; obtain ⟨p0, p1, p2, p3, p4, pl⟩ := HF.out _ (hSw); go_simp <;> with_reducible rfl)
            try simp only [pqZ]
            refine wpAnyH_ready (rs := [9]) (by kernel_rfl) (by simp) ?_
            refine AllReadyH.cons (o := ⟨some 54, _, _, _, _, _⟩) rfl (fun K hK => ?_) AllReadyH.nil
            go_simp
            refine (HU2.out _).mono ?_
            rintro e y2 ⟨rfl, hb2⟩
            have hKeep := since_step hHeld hb2
            clear hb2
            go_wp2_with fail
            refine hK.out _ _ (by (try dsimp only); exact hKeep) (fun hHeld => ?_)
            clear hK K hKeep
            try simp only [pqZ]
            refine tkZ (i := 10) (oi := ⟨some 55, _, _, _, _, _⟩) (v := ?_) rfl (by kernel_rfl) (fun _ _ _ h => h) (Or.inl ⟨by rfl, ?_⟩) hHeld ?_
            rotate_left
            · (intro w hSw; obtain ⟨p0, p1, p2, p3, p4, pl⟩ := HF.out _ (hSw); go_simp <;> with_reducible rfl)
            try simp only [pqZ]
            refine tkZ (i := 11) (oi := ⟨some 56, _, _, _, _, _⟩) (v := ?_) rfl (by kernel_rfl) (fun _ _ _ h => h) (Or.inl ⟨by rfl, ?_⟩) hHeld ?_
            rotate_left
            · (intro w hSw; obtain ⟨p0, p1, p2, p3, p4, pl⟩ := HF.out _ (hSw); go_simp <;> with_reducible rfl)
            try simp only [pqZ]
            refine wpAnyH_ready (rs := [14]) (by kernel_rfl) (by simp) ?_
            refine AllReadyH.cons (o := ⟨some 59, _, _, _, _, _⟩) rfl (fun K hK => ?_) AllReadyH.nil
            go_simp
            refine (HN1.out _).mono ?_
            rintro e y3 ⟨rfl, hb3⟩
            have hKeep := since_step hHeld hb3
            clear hb3
            go_wp2_with fail
            refine hK.out _ _ (by (try dsimp only); exact hKeep) (fun hHeld => ?_)
            clear hK K hKeep
            try simp only [pqZ]
            refine tkZ (i := 15) (oi := ⟨some 60, _, _, _, _, _⟩) (v := ?_) rfl (by kernel_rfl) (fun _ _ _ h => h) (Or.inl ⟨by rfl, ?_⟩) hHeld ?_
            rotate_left
            · (intro w hSw; obtain ⟨p0, p1, p2, p3, p4, pl⟩ := HF.out _ (hSw); go_simp <;> with_reducible rfl)
            try simp only [pqZ]
            refine tkZ (i := 16) (oi := ⟨some 3, _, _, _, _, _⟩) (v := ?_) rfl (by kernel_rfl) (fun _ _ _ h => h) (Or.inl ⟨by rfl, ?_⟩) hHeld ?_
            rotate_left
            · (intro w hSw; obtain ⟨p0, p1, p2, p3, p4, pl⟩ := HF.out _ (hSw); go_simp <;> with_reducible rfl)
            try simp only [pqZ]
            refine wpAnyH_done (by kernel_rfl) ?_ _
            have hWN := since_step HW5.out hHeld
            go_wp2_with fail
            go_roundw
            case rel => exact ⟨j + 1, by omega, by go_num, HTJ.out, hWN⟩
            case measure => simp [intOf]; omega
          · obtain rfl : j = debs.length := by omega
            rw [List.take_length]
            have HW4 := Lib.hid hW4
            obtain ⟨k0, k1, k2, k3, kl⟩ := HCE.out _ hW4
            clear hW4
            go_wp2_with fail
            clear k0 k1 k2 k3 kl
            go_loopw [3, 7] (fun sv iv wr => ∃ (j : Nat), j ≤ rets.length ∧ iv = .int .i64 (j : Int) ∧ sv = .string (S8 (Lib.join ((H0 ++ nums.map Lib.itoa ++ debs.flatMap dbW) ++ ((rets.take j).flatMap rnW)) [32])) ∧ Below Y.heap.size Y wr) (fun _ iv _ => rets.length - (intOf iv).toNat)
            case atStart => exact ⟨0, by omega, rfl, by simp, HW4.out⟩
            case round =>
              clear HW4
              obtain ⟨j, hj1, rfl, rfl, hW4⟩ := hrel
              by_cases hj : j < rets.length
              · have hjl : (j : Int) < (rets.length : Int) := by omega
                have hj0 : (0 : Int) ≤ (j : Int) := by omega
                obtain ⟨hxb, hB⟩ := HKY.out wr hW4
                obtain ⟨b2, o2, hA2, hbw, hcc⟩ := Sl.elem (m := 4) (fun x => rfl) (by decide) (HSL.out wr hB).2.2.1 hj
                have hmem := List.getElem_mem hj
                obtain ⟨x, hx⟩ : ∃ x, rets[j] = x := ⟨_, rfl⟩
                have hTJ : ((H0 ++ nums.map Lib.itoa ++ debs.flatMap dbW) ++ (rets.take (j + 1)).flatMap rnW) = ((H0 ++ nums.map Lib.itoa ++ debs.flatMap dbW) ++ (rets.take j).flatMap rnW) ++ rnW x := by rw [take_snoc rets j hj, List.flatMap_append, ← List.append_assoc, hx]; simp
                rw [hx] at hcc hmem
                have hTl := join_len (HL3.out j) (by omega)
                have HOKX := Lib.hid (fun V hV => (HSL.out V hV).2.2.2 x hmem)
                have HLH := Lib.hid (rnH_lw (HOKX.out wr hB))
                obtain ⟨xa, xb, xq, xA, xc, xl⟩ := x
                obtain ⟨ia, ib, iq, hll, hil, _⟩ := (HSL.out wr hB).2.2.2 _ hmem
                simp only at ia ib iq hll hil
                have d0 := hcc 0 _ rfl
                have d1 := hcc 1 _ rfl
                have d2 := hcc 2 _ rfl
                have d3 := hcc 3 _ rfl
                simp only [Nat.add_zero] at d0
                have HTJ := Lib.hid hTJ
                have HIL := Lib.hid hil
                have HXL := Lib.hid hll
                have HU1 := Lib.hid (fun V => runit40 xa xb ia ib V)
                have HN1 := Lib.hid (fun V => rnum40 xq iq V)
                have hl1 := unitB_len ia ib
                have hl3 := itoa_len _ iq
                obtain ⟨T, hT⟩ : ∃ T, Lib.join ((H0 ++ nums.map Lib.itoa ++ debs.flatMap dbW) ++ (rets.take j).flatMap rnW) [32] = T := ⟨_, rfl⟩
                obtain ⟨U1, hU1⟩ : ∃ U, unitB xa xb = U := ⟨_, rfl⟩
                obtain ⟨N1, hN1⟩ : ∃ U, Lib.itoa xq = U := ⟨_, rfl⟩
                have HTT := Lib.hid hT
                have HUU := Lib.hid hU1
                have HNN := Lib.hid hN1
                rw [hT] at hTl
                rw [hT]
                rw [hU1] at HU1 hl1
                rw [hN1] at HN1 hl3
                obtain ⟨X1, hX1⟩ : ∃ X, T ++ ([32, 114, 101, 116, 117, 114, 110, 32] : List UInt8) = X := ⟨_, rfl⟩
                have lX1 : X1.length = T.length + (([32, 114, 101, 116, 117, 114, 110, 32] : List UInt8)).length := by rw [← hX1, List.length_append]
                simp only [List.length_cons, List.length_nil] at lX1
                have ad0 : ∀ W, (Op.stringOp .add (S8 T) (⟨#[32, 114, 101, 116, 117, 114, 110, 32]⟩ : ByteArray)).run Tryz.prog W = .ok (.string (S8 X1)) W := by rw [← hX1]; exact add_strW T (([32, 114, 101, 116, 117, 114, 110, 32] : List UInt8)) (by simp only [List.length_cons, List.length_nil]; omega)
                obtain ⟨X2, hX2⟩ : ∃ X, X1 ++ U1 = X := ⟨_, rfl⟩
                have lX2 : X2.length = X1.length + (U1).length := by rw [← hX2, List.length_append]
                have ad1 : ∀ W, (Op.stringOp .add (S8 X1) (S8 U1)).run Tryz.prog W = .ok (.string (S8 X2)) W := by rw [← hX2]; exact add_strW X1 (U1) (by omega)
                obtain ⟨X3, hX3⟩ : ∃ X, X2 ++ ([32] : List UInt8) = X := ⟨_, rfl⟩
                have lX3 : X3.length = X2.length + (([32] : List UInt8)).length := by rw [← hX3, List.length_append]
                simp only [List.length_cons, List.length_nil] at lX3
                have ad2 : ∀ W, (Op.stringOp .add (S8 X2) (⟨#[32]⟩ : ByteArray)).run Tryz.prog W = .ok (.string (S8 X3)) W := by rw [← hX3]; exact add_strW X2 (([32] : List UInt8)) (by simp only [List.length_cons, List.length_nil]; omega)
                obtain ⟨X4, hX4⟩ : ∃ X, X3 ++ N1 = X := ⟨_, rfl⟩
                have lX4 : X4.length = X3.length + (N1).length := by rw [← hX4, List.length_append]
                have ad3 : ∀ W, (Op.stringOp .add (S8 X3) (S8 N1)).run Tryz.prog W = .ok (.string (S8 X4)) W := by rw [← hX4]; exact add_strW X3 (N1) (by omega)
                have HEQ3 : Hid (X4 = T ++ ([32, 114, 101, 116, 117, 114, 110, 32]) ++ (U1) ++ ([32]) ++ (N1)) := Lib.hid (by rw [← hX4]; rw [← hX3]; rw [← hX2]; rw [← hX1])
                clear hX1 hX2 hX3 hX4 lX1 lX2 lX3 lX4
                subst hA2
                clear hx hTJ hmem ia ib iq hcc hll hil hT hU1 hN1 hl1 hl3 hTl
                have hal := since_alloc (Below.refl _ wr) (.cells #[.int .i64 xa, .int .i64 xb, .int .i64 xq, .slice xA xl.length xc] 51)
                have hqx := heap_alloc_new wr (.cells #[.int .i64 xa, .int .i64 xb, .int .i64 xq, .slice xA xl.length xc] 51)
                obtain ⟨q, hq⟩ : ∃ q, wr.heap.size = q := ⟨_, rfl⟩
                rw [hq] at hqx
                obtain ⟨Y2, hY2⟩ : ∃ Y2, wr.alloc (.cells #[.int .i64 xa, .int .i64 xb, .int .i64 xq, .slice xA xl.length xc] 51) = Y2 := ⟨_, rfl⟩
                have hW5 := since_step hW4 hal
                rw [hY2] at hqx hW5
                have HQ := Lib.hid hq
                have HY2 := Lib.hid hY2
                have HW5 := Lib.hid hW5
                have hqlt := (Array.getElem?_eq_some_iff.1 hqx).1
                have HFX : Hid (∀ V, Below Y2.heap.size Y2 V → V.heap[q]? = some (.cells #[.int .i64 xa, .int .i64 xb, .int .i64 xq, .slice xA xl.length xc] 51 (0, 0))) := Lib.hid fun V hC => (hC.block _ hqlt).trans hqx
                have HF : Hid (∀ V, Below Y2.heap.size Y2 V → V.cell? ⟨q, 0, none⟩ = some (.int .i64 xa) ∧ V.cell? ⟨q, 0 + 1, none⟩ = some (.int .i64 xb) ∧ V.cell? ⟨q, 0 + 2, none⟩ = some (.int .i64 xq) ∧ V.cell? ⟨q, 0 + 3, none⟩ = some (.slice xA xl.length xc) ∧ q < V.heap.size) := Lib.hid fun V hC => by
                  have h := HFX.out V hC
                  exact ⟨(cell_of_row V _ 0 _ _ (0, 0) h).trans rfl, (cell_of_row V _ 1 _ _ (0, 0) h).trans rfl, (cell_of_row V _ 2 _ _ (0, 0) h).trans rfl, (cell_of_row V _ 3 _ _ (0, 0) h).trans rfl, (Array.getElem?_eq_some_iff.1 h).1⟩
                obtain ⟨k0, k1, k2, k3, kl⟩ := HCE.out wr hW4
                clear hal hqx hq hY2 hW5 hW4 hB hxb hqlt
                go_upto_region 17 with fail
                rw [HY2.out, HQ.out]
                clear k0 k1 k2 k3 kl
                refine wp_region_held_drew (S := (fun V => Below Y2.heap.size Y2 V)) (by kernel_rfl) (by exact (Below.refl _ _).drew) (fun hHeld => ?_)
                refine tkZ (i := 0) (oi := ⟨some 73, _, _, _, _, _⟩) (v := ?_) rfl (by kernel_rfl) (fun _ _ _ h => h) (Or.inl ⟨by rfl, ?_⟩) hHeld ?_
                rotate_left
                · (intro w hSw; obtain ⟨p0, p1, p2, p3, pl⟩ := HF.out _ (hSw); go_simp <;> with_reducible rfl)
                try simp only [pqZ]
                refine tkZ (i := 1) (oi := ⟨some 74, _, _, _, _, _⟩) (v := ?_) rfl (by kernel_rfl) (fun _ _ _ h => h) (Or.inl ⟨by rfl, ?_⟩) hHeld ?_
                rotate_left
                · (intro w hSw; obtain ⟨p0, p1, p2, p3, pl⟩ := HF.out _ (hSw); go_simp <;> with_reducible rfl)
                try simp only [pqZ]
                refine tkZ (i := 2) (oi := ⟨some 75, _, _, _, _, _⟩) (v := ?_) rfl (by kernel_rfl) (fun _ _ _ h => h) (Or.inl ⟨by rfl, ?_⟩) hHeld ?_
                rotate_left
                · (intro w hSw; obtain ⟨p0, p1, p2, p3, pl⟩ := HF.out _ (hSw); go_simp <;> with_reducible rfl)
                try simp only [pqZ]
                refine tkZ (i := 3) (oi := ⟨some 76, _, _, _, _, _⟩) (v := ?_) rfl (by kernel_rfl) (fun _ _ _ h => h) (Or.inl ⟨by rfl, ?_⟩) hHeld ?_
                rotate_left
                · (intro w hSw; obtain ⟨p0, p1, p2, p3, pl⟩ := HF.out _ (hSw); go_simp <;> with_reducible rfl)
                try simp only [pqZ]
                refine tkZ (i := 7) (oi := ⟨some 80, _, _, _, _, _⟩) (v := ?_) rfl (by kernel_rfl) (fun _ _ _ h => h) (Or.inl ⟨by rfl, ?_⟩) hHeld ?_
                rotate_left
                · (intro w hSw; obtain ⟨p0, p1, p2, p3, pl⟩ := HF.out _ (hSw); go_simp <;> with_reducible rfl)
                try simp only [pqZ]
                refine tkZ (i := 8) (oi := ⟨some 81, _, _, _, _, _⟩) (v := ?_) rfl (by kernel_rfl) (fun _ _ _ h => h) (Or.inl ⟨by rfl, ?_⟩) hHeld ?_
                rotate_left
                · (intro w hSw; obtain ⟨p0, p1, p2, p3, pl⟩ := HF.out _ (hSw); go_simp <;> with_reducible rfl)
                try simp only [pqZ]
                refine wpAnyH_ready (rs := [4]) (by kernel_rfl) (by simp) ?_
                refine AllReadyH.cons (o := ⟨some 77, _, _, _, _, _⟩) rfl (fun K hK => ?_) AllReadyH.nil
                go_simp
                refine (HU1.out _).mono ?_
                rintro e y1 ⟨rfl, hb1⟩
                have hKeep := since_step hHeld hb1
                clear hb1
                go_wp2_with fail
                refine hK.out _ _ (by (try dsimp only); exact hKeep) (fun hHeld => ?_)
                clear hK K hKeep
                try simp only [pqZ]
                refine tkZ (i := 5) (oi := ⟨some 78, _, _, _, _, _⟩) (v := ?_) rfl (by kernel_rfl) (fun _ _ _ h => h) (Or.inl ⟨by rfl, ?_⟩) hHeld ?_
                rotate_left
                · (intro w hSw; obtain ⟨p0, p1, p2, p3, pl⟩ := HF.out _ (hSw); go_simp <;> with_reducible rfl)
                try simp only [pqZ]
                refine tkZ (i := 6) (oi := ⟨some 79, _, _, _, _, _⟩) (v := ?_) rfl (by kernel_rfl) (fun _ _ _ h => h) (Or.inl ⟨by rfl, ?_⟩) hHeld ?_
                rotate_left
                · (intro w hSw; obtain ⟨p0, p1, p2, p3, pl⟩ := HF.out _ (hSw); go_simp <;> with_reducible rfl)
                try simp only [pqZ]
                refine wpAnyH_ready (rs := [9]) (by kernel_rfl) (by simp) ?_
                refine AllReadyH.cons (o := ⟨some 82, _, _, _, _, _⟩) rfl (fun K hK => ?_) AllReadyH.nil
                go_simp
                refine (HN1.out _).mono ?_
                rintro e y2 ⟨rfl, hb2⟩
                have hKeep := since_step hHeld hb2
                clear hb2
                go_wp2_with fail
                refine hK.out _ _ (by (try dsimp only); exact hKeep) (fun hHeld => ?_)
                clear hK K hKeep
                try simp only [pqZ]
                refine tkZ (i := 10) (oi := ⟨some 83, _, _, _, _, _⟩) (v := ?_) rfl (by kernel_rfl) (fun _ _ _ h => h) (Or.inl ⟨by rfl, ?_⟩) hHeld ?_
                rotate_left
                · (intro w hSw; obtain ⟨p0, p1, p2, p3, pl⟩ := HF.out _ (hSw); go_simp <;> with_reducible rfl)
                try simp only [pqZ]
                refine tkZ (i := 11) (oi := ⟨some 3, _, _, _, _, _⟩) (v := ?_) rfl (by kernel_rfl) (fun _ _ _ h => h) (Or.inl ⟨by rfl, ?_⟩) hHeld ?_
                rotate_left
                · (intro w hSw; obtain ⟨p0, p1, p2, p3, pl⟩ := HF.out _ (hSw); go_simp <;> with_reducible rfl)
                try simp only [pqZ]
                refine wpAnyH_done (by kernel_rfl) ?_ _
                have hW6 := hHeld
                obtain ⟨B5, hB5⟩ : ∃ B5, ((H0 ++ nums.map Lib.itoa ++ debs.flatMap dbW) ++ (rets.take j).flatMap rnW) ++ [[114, 101, 116, 117, 114, 110], unitB xa xb, Lib.itoa xq] = B5 := ⟨_, rfl⟩
                have HN5 : Hid (B5 ≠ []) := Lib.hid (by rw [← hB5]; simp)
                have HLL : Hid (∀ k, Lw 60000 (B5 ++ (xl.take k).flatMap loW)) := Lib.hid fun k => by
                  rw [← hB5]
                  exact (((HL3.out j).app HLH.out).app (Lw.flatT (n := 4) (m := 100) (fun y hy => loW_lw (HIL.out y hy)) HXL.out k)).up (by omega)
                have HS5 : Hid (Value.string (S8 X4) = .string (S8 (Lib.join B5 [32]))) := Lib.hid (by
                  rw [← hB5, join_more _ _ (by have := HNE.out; simp [this]), HTT.out, HEQ3.out]
                  simp [jn, ← HUU.out, ← HNN.out])
                have HTJ5 : Hid (B5 ++ xl.flatMap loW = (H0 ++ nums.map Lib.itoa ++ debs.flatMap dbW) ++ (rets.take (j + 1)).flatMap rnW) := Lib.hid (by rw [HTJ.out, ← hB5]; unfold rnW rnH; rw [List.append_assoc])
                have HW6 := Lib.hid hW6
                obtain ⟨k0, k1, k2, k3, kl⟩ := HF.out _ hW6
                clear hW6 hB5 hHeld
                go_wp2_with fail
                clear k0 k1 k2 k3 kl
                go_loopw [3, 9] (fun sv iv wr => ∃ (i : Nat), i ≤ xl.length ∧ iv = .int .i64 (i : Int) ∧ sv = .string (S8 (Lib.join (B5 ++ (xl.take i).flatMap loW) [32])) ∧ Below Y2.heap.size Y2 wr) (fun _ iv _ => xl.length - (intOf iv).toNat)
                case atStart => exact ⟨0, by omega, rfl, by simpa using HS5.out, HW6.out⟩
                case round =>
                  clear HW6 HS5
                  obtain ⟨i, hi1, rfl, rfl, hW4⟩ := hrel
                  have hxl := HXL.out
                  by_cases hi : i < xl.length
                  · have hil : (i : Int) < (xl.length : Int) := by omega
                    have hi0 : (0 : Int) ≤ (i : Int) := by omega
                    obtain ⟨hxb, hB⟩ := HKY.out wr (since_step HW5.out hW4)
                    obtain ⟨b3, o3, hA3, hbw, hcc⟩ := Sl.elem (m := 3) (fun x => rfl) (by decide) (HOKX.out wr hB).sl hi
                    simp only at hA3
                    have hmem := List.getElem_mem hi
                    obtain ⟨z, hz⟩ : ∃ z, xl[i] = z := ⟨_, rfl⟩
                    have hTJ3 : (B5 ++ (xl.take (i + 1)).flatMap loW) = (B5 ++ (xl.take i).flatMap loW) ++ loW z := by rw [take_snoc xl i hi, List.flatMap_append, ← List.append_assoc, hz]; simp
                    rw [hz] at hcc hmem
                    have hTl := join_len (HLL.out i) (by omega)
                    obtain ⟨T2, hT⟩ : ∃ T, Lib.join (B5 ++ (xl.take i).flatMap loW) [32] = T := ⟨_, rfl⟩
                    have hTJ2 : Lib.join (B5 ++ (xl.take (i + 1)).flatMap loW) [32] = T2 ++ jn (loW z) := by
                      rw [hTJ3, join_more _ _ (by have := HN5.out; simp [this]), hT]
                    rw [hT] at hTl
                    rw [hT]
                    clear hTJ3
                    obtain ⟨za, zb, zq⟩ := z
                    obtain ⟨ia, ib, iq⟩ := HIL.out _ hmem
                    simp only at ia ib iq
                    have d0 := hcc 0 _ rfl
                    have d1 := hcc 1 _ rfl
                    have d2 := hcc 2 _ rfl
                    simp only [Nat.add_zero] at d0
                    have HU1 := Lib.hid (fun V => rnum40 za ia V)
                    have HU2 := Lib.hid (fun V => rnum40 zb ib V)
                    have HN1 := Lib.hid (fun V => rnum40 zq iq V)
                    have hl1 := itoa_len _ ia
                    have hl2 := itoa_len _ ib
                    have hl3 := itoa_len _ iq
                    have hTJ3 : jn (loW ⟨za, zb, zq⟩) = [32, 108, 111, 116, 32] ++ Lib.itoa za ++ [32] ++ Lib.itoa zb ++ [32] ++ Lib.itoa zq := by simp [jn, loW]
                    rw [hTJ3] at hTJ2
                    obtain ⟨U1, hU1⟩ : ∃ U, Lib.itoa za = U := ⟨_, rfl⟩
                    obtain ⟨U2, hU2⟩ : ∃ U, Lib.itoa zb = U := ⟨_, rfl⟩
                    obtain ⟨N1, hN1⟩ : ∃ U, Lib.itoa zq = U := ⟨_, rfl⟩
                    rw [hU1] at HU1 hl1 hTJ2
                    rw [hU2] at HU2 hl2 hTJ2
                    rw [hN1] at HN1 hl3 hTJ2
                    obtain ⟨Z1, hZ1⟩ : ∃ X, T2 ++ ([32, 108, 111, 116, 32] : List UInt8) = X := ⟨_, rfl⟩
                    have lZ1 : Z1.length = T2.length + (([32, 108, 111, 116, 32] : List UInt8)).length := by rw [← hZ1, List.length_append]
                    simp only [List.length_cons, List.length_nil] at lZ1
                    have ad0 : ∀ W, (Op.stringOp .add (S8 T2) (⟨#[32, 108, 111, 116, 32]⟩ : ByteArray)).run Tryz.prog W = .ok (.string (S8 Z1)) W := by rw [← hZ1]; exact add_strW T2 (([32, 108, 111, 116, 32] : List UInt8)) (by simp only [List.length_cons, List.length_nil]; omega)
                    obtain ⟨Z2, hZ2⟩ : ∃ X, Z1 ++ U1 = X := ⟨_, rfl⟩
                    have lZ2 : Z2.length = Z1.length + (U1).length := by rw [← hZ2, List.length_append]
                    have ad1 : ∀ W, (Op.stringOp .add (S8 Z1) (S8 U1)).run Tryz.prog W = .ok (.string (S8 Z2)) W := by rw [← hZ2]; exact add_strW Z1 (U1) (by omega)
                    obtain ⟨Z3, hZ3⟩ : ∃ X, Z2 ++ ([32] : List UInt8) = X := ⟨_, rfl⟩
                    have lZ3 : Z3.length = Z2.length + (([32] : List UInt8)).length := by rw [← hZ3, List.length_append]
                    simp only [List.length_cons, List.length_nil] at lZ3
                    have ad2 : ∀ W, (Op.stringOp .add (S8 Z2) (⟨#[32]⟩ : ByteArray)).run Tryz.prog W = .ok (.string (S8 Z3)) W := by rw [← hZ3]; exact add_strW Z2 (([32] : List UInt8)) (by simp only [List.length_cons, List.length_nil]; omega)
                    obtain ⟨Z4, hZ4⟩ : ∃ X, Z3 ++ U2 = X := ⟨_, rfl⟩
                    have lZ4 : Z4.length = Z3.length + (U2).length := by rw [← hZ4, List.length_append]
                    have ad3 : ∀ W, (Op.stringOp .add (S8 Z3) (S8 U2)).run Tryz.prog W = .ok (.string (S8 Z4)) W := by rw [← hZ4]; exact add_strW Z3 (U2) (by omega)
                    obtain ⟨Z5, hZ5⟩ : ∃ X, Z4 ++ ([32] : List UInt8) = X := ⟨_, rfl⟩
                    have lZ5 : Z5.length = Z4.length + (([32] : List UInt8)).length := by rw [← hZ5, List.length_append]
                    simp only [List.length_cons, List.length_nil] at lZ5
                    have ad4 : ∀ W, (Op.stringOp .add (S8 Z4) (⟨#[32]⟩ : ByteArray)).run Tryz.prog W = .ok (.string (S8 Z5)) W := by rw [← hZ5]; exact add_strW Z4 (([32] : List UInt8)) (by simp only [List.length_cons, List.length_nil]; omega)
                    obtain ⟨Z6, hZ6⟩ : ∃ X, Z5 ++ N1 = X := ⟨_, rfl⟩
                    have lZ6 : Z6.length = Z5.length + (N1).length := by rw [← hZ6, List.length_append]
                    have ad5 : ∀ W, (Op.stringOp .add (S8 Z5) (S8 N1)).run Tryz.prog W = .ok (.string (S8 Z6)) W := by rw [← hZ6]; exact add_strW Z5 (N1) (by omega)
                    have HEQ : Hid (Z6 = T2 ++ ([32, 108, 111, 116, 32]) ++ (U1) ++ ([32]) ++ (U2) ++ ([32]) ++ (N1)) := Lib.hid (by rw [← hZ6]; rw [← hZ5]; rw [← hZ4]; rw [← hZ3]; rw [← hZ2]; rw [← hZ1])
                    clear hZ1 hZ2 hZ3 hZ4 hZ5 hZ6 lZ1 lZ2 lZ3 lZ4 lZ5 lZ6
                    have HTJ3 : Hid (Value.string (S8 Z6) = .string (S8 (Lib.join (B5 ++ (xl.take (i + 1)).flatMap loW) [32]))) := Lib.hid (by rw [hTJ2, HEQ.out]; simp)
                    have HFL : Hid (∀ V, Below wr.heap.size wr V → V.cell? ⟨q, 0 + 3, none⟩ = some (.slice (some ⟨b3, o3, none⟩) xl.length xc) ∧ q < V.heap.size ∧ V.cell? ⟨b3, o3 + (i * 3), none⟩ = some (.int .i64 za) ∧ V.cell? ⟨b3, o3 + (i * 3) + 1, none⟩ = some (.int .i64 zb) ∧ V.cell? ⟨b3, o3 + (i * 3) + 2, none⟩ = some (.int .i64 zq) ∧ b3 < V.heap.size) := Lib.hid fun V hC => by
                      obtain ⟨_, _, _, p3, pl⟩ := HF.out V (since_step hW4 hC)
                      rw [hA3] at p3
                      exact ⟨p3, pl, (hC.cell hbw).trans d0, (hC.cell hbw).trans d1, (hC.cell hbw).trans d2, Nat.lt_of_lt_of_le hbw hC.size⟩
                    have HWR := Lib.hid hW4
                    subst hA3
                    clear hz hmem ia ib iq hcc hTJ3 hTJ2 hU1 hU2 hN1 hl1 hl2 hl3 hTl hT hW4 hB hxb d0 d1 d2 hbw
                    obtain ⟨k3, kl, _, _, _, _⟩ := HFL.out wr (Below.refl _ _)
                    go_upto_region 21 with fail
                    clear k3 kl
                    refine wp_region_held_drew (S := (fun V => Below wr.heap.size wr V)) (by kernel_rfl) (by exact (Below.refl _ _).drew) (fun hHeld => ?_)
                    refine tkZ (i := 0) (oi := ⟨some 91, _, _, _, _, _⟩) (v := ?_) rfl (by kernel_rfl) (fun _ _ _ h => h) (Or.inl ⟨by rfl, ?_⟩) hHeld ?_
                    rotate_left
                    · (intro w hSw; obtain ⟨p3, pl, d0, d1, d2, dl⟩ := HFL.out _ (hSw); go_simp <;> with_reducible rfl)
                    try simp only [pqZ]
                    refine tkZ (i := 1) (oi := ⟨some 92, _, _, _, _, _⟩) (v := ?_) rfl (by kernel_rfl) (fun _ _ _ h => h) (Or.inl ⟨by rfl, ?_⟩) hHeld ?_
                    rotate_left
                    · (intro w hSw; obtain ⟨p3, pl, d0, d1, d2, dl⟩ := HFL.out _ (hSw); go_simp <;> with_reducible rfl)
                    try simp only [pqZ]
                    refine tkZ (i := 2) (oi := ⟨some 93, _, _, _, _, _⟩) (v := ?_) rfl (by kernel_rfl) (fun _ _ _ h => h) (Or.inl ⟨by rfl, ?_⟩) hHeld ?_
                    rotate_left
                    · (intro w hSw; obtain ⟨p3, pl, d0, d1, d2, dl⟩ := HFL.out _ (hSw); go_simp <;> with_reducible rfl)
                    try simp only [pqZ]
                    refine tkZ (i := 3) (oi := ⟨some 94, _, _, _, _, _⟩) (v := ?_) rfl (by kernel_rfl) (fun _ _ _ h => h) (Or.inl ⟨by rfl, ?_⟩) hHeld ?_
                    rotate_left
                    · (intro w hSw; obtain ⟨p3, pl, d0, d1, d2, dl⟩ := HFL.out _ (hSw); go_simp <;> with_reducible rfl)
                    try simp only [pqZ]
                    refine tkZ (i := 4) (oi := ⟨some 95, _, _, _, _, _⟩) (v := ?_) rfl (by kernel_rfl) (fun _ _ _ h => h) (Or.inl ⟨by rfl, ?_⟩) hHeld ?_
                    rotate_left
                    · (intro w hSw; obtain ⟨p3, pl, d0, d1, d2, dl⟩ := HFL.out _ (hSw); go_simp <;> with_reducible rfl)
                    try simp only [pqZ]
                    refine tkZ (i := 5) (oi := ⟨some 96, _, _, _, _, _⟩) (v := ?_) rfl (by kernel_rfl) (fun _ _ _ h => h) (Or.inl ⟨by rfl, ?_⟩) hHeld ?_
                    rotate_left
                    · (intro w hSw; obtain ⟨p3, pl, d0, d1, d2, dl⟩ := HFL.out _ (hSw); go_simp <;> with_reducible rfl)
                    try simp only [pqZ]
                    refine tkZ (i := 6) (oi := ⟨some 97, _, _, _, _, _⟩) (v := ?_) rfl (by kernel_rfl) (fun _ _ _ h => h) (Or.inl ⟨by rfl, ?_⟩) hHeld ?_
                    rotate_left
                    · (intro w hSw; obtain ⟨p3, pl, d0, d1, d2, dl⟩ := HFL.out _ (hSw); go_simp <;> with_reducible rfl)
                    try simp only [pqZ]
                    refine tkZ (i := 7) (oi := ⟨some 98, _, _, _, _, _⟩) (v := ?_) rfl (by kernel_rfl) (fun _ _ _ h => h) (Or.inl ⟨by rfl, ?_⟩) hHeld ?_
                    rotate_left
                    · (intro w hSw; obtain ⟨p3, pl, d0, d1, d2, dl⟩ := HFL.out _ (hSw); go_simp <;> with_reducible rfl)
                    try simp only [pqZ]
                    refine tkZ (i := 11) (oi := ⟨some 102, _, _, _, _, _⟩) (v := ?_) rfl (by kernel_rfl) (fun _ _ _ h => h) (Or.inl ⟨by rfl, ?_⟩) hHeld ?_
                    rotate_left
                    · (intro w hSw; obtain ⟨p3, pl, d0, d1, d2, dl⟩ := HFL.out _ (hSw); go_simp <;> with_reducible rfl)
                    try simp only [pqZ]
                    refine tkZ (i := 12) (oi := ⟨some 103, _, _, _, _, _⟩) (v := ?_) rfl (by kernel_rfl) (fun _ _ _ h => h) (Or.inl ⟨by rfl, ?_⟩) hHeld ?_
                    rotate_left
                    · (intro w hSw; obtain ⟨p3, pl, d0, d1, d2, dl⟩ := HFL.out _ (hSw); go_simp <;> with_reducible rfl)
                    try simp only [pqZ]
                    refine tkZ (i := 13) (oi := ⟨some 104, _, _, _, _, _⟩) (v := ?_) rfl (by kernel_rfl) (fun _ _ _ h => h) (Or.inl ⟨by rfl, ?_⟩) hHeld ?_
                    rotate_left
                    · (intro w hSw; obtain ⟨p3, pl, d0, d1, d2, dl⟩ := HFL.out _ (hSw); go_simp <;> with_reducible rfl)
                    try simp only [pqZ]
                    refine tkZ (i := 14) (oi := ⟨some 105, _, _, _, _, _⟩) (v := ?_) rfl (by kernel_rfl) (fun _ _ _ h => h) (Or.inl ⟨by rfl, ?_⟩) hHeld ?_
                    rotate_left
                    · (intro w hSw; obtain ⟨p3, pl, d0, d1, d2, dl⟩ := HFL.out _ (hSw); go_simp <;> with_reducible rfl)
                    try simp only [pqZ]
                    refine tkZ (i := 15) (oi := ⟨some 106, _, _, _, _, _⟩) (v := ?_) rfl (by kernel_rfl) (fun _ _ _ h => h) (Or.inl ⟨by rfl, ?_⟩) hHeld ?_
                    rotate_left
                    · (intro w hSw; obtain ⟨p3, pl, d0, d1, d2, dl⟩ := HFL.out _ (hSw); go_simp <;> with_reducible rfl)
                    try simp only [pqZ]
                    refine tkZ (i := 16) (oi := ⟨some 107, _, _, _, _, _⟩) (v := ?_) rfl (by kernel_rfl) (fun _ _ _ h => h) (Or.inl ⟨by rfl, ?_⟩) hHeld ?_
                    rotate_left
                    · (intro w hSw; obtain ⟨p3, pl, d0, d1, d2, dl⟩ := HFL.out _ (hSw); go_simp <;> with_reducible rfl)
                    try simp only [pqZ]
                    refine tkZ (i := 20) (oi := ⟨some 111, _, _, _, _, _⟩) (v := ?_) rfl (by kernel_rfl) (fun _ _ _ h => h) (Or.inl ⟨by rfl, ?_⟩) hHeld ?_
                    rotate_left
                    · (intro w hSw; obtain ⟨p3, pl, d0, d1, d2, dl⟩ := HFL.out _ (hSw); go_simp <;> with_reducible rfl)
                    try simp only [pqZ]
                    refine tkZ (i := 21) (oi := ⟨some 112, _, _, _, _, _⟩) (v := ?_) rfl (by kernel_rfl) (fun _ _ _ h => h) (Or.inl ⟨by rfl, ?_⟩) hHeld ?_
                    rotate_left
                    · (intro w hSw; obtain ⟨p3, pl, d0, d1, d2, dl⟩ := HFL.out _ (hSw); go_simp <;> with_reducible rfl)
                    try simp only [pqZ]
                    refine tkZ (i := 22) (oi := ⟨some 113, _, _, _, _, _⟩) (v := ?_) rfl (by kernel_rfl) (fun _ _ _ h => h) (Or.inl ⟨by rfl, ?_⟩) hHeld ?_
                    rotate_left
                    · (intro w hSw; obtain ⟨p3, pl, d0, d1, d2, dl⟩ := HFL.out _ (hSw); go_simp <;> with_reducible rfl)
                    try simp only [pqZ]
                    refine tkZ (i := 23) (oi := ⟨some 114, _, _, _, _, _⟩) (v := ?_) rfl (by kernel_rfl) (fun _ _ _ h => h) (Or.inl ⟨by rfl, ?_⟩) hHeld ?_
                    rotate_left
                    · (intro w hSw; obtain ⟨p3, pl, d0, d1, d2, dl⟩ := HFL.out _ (hSw); go_simp <;> with_reducible rfl)
                    try simp only [pqZ]
                    refine tkZ (i := 24) (oi := ⟨some 115, _, _, _, _, _⟩) (v := ?_) rfl (by kernel_rfl) (fun _ _ _ h => h) (Or.inl ⟨by rfl, ?_⟩) hHeld ?_
                    rotate_left
                    · (intro w hSw; obtain ⟨p3, pl, d0, d1, d2, dl⟩ := HFL.out _ (hSw); go_simp <;> with_reducible rfl)
                    try simp only [pqZ]
                    refine tkZ (i := 25) (oi := ⟨some 116, _, _, _, _, _⟩) (v := ?_) rfl (by kernel_rfl) (fun _ _ _ h => h) (Or.inl ⟨by rfl, ?_⟩) hHeld ?_
                    rotate_left
                    · (intro w hSw; obtain ⟨p3, pl, d0, d1, d2, dl⟩ := HFL.out _ (hSw); go_simp <;> with_reducible rfl)
                    try simp only [pqZ]
                    refine wpAnyH_ready (rs := [8]) (by kernel_rfl) (by simp) ?_
                    refine AllReadyH.cons (o := ⟨some 99, _, _, _, _, _⟩) rfl (fun K hK => ?_) AllReadyH.nil
                    go_simp
                    refine (HU1.out _).mono ?_
                    rintro e y1 ⟨rfl, hb1⟩
                    have hKeep := since_step hHeld hb1
                    clear hb1
                    go_wp2_with fail
                    refine hK.out _ _ (by (try dsimp only); exact hKeep) (fun hHeld => ?_)
                    clear hK K hKeep
                    try simp only [pqZ]
                    refine tkZ (i := 9) (oi := ⟨some 100, _, _, _, _, _⟩) (v := ?_) rfl (by kernel_rfl) (fun _ _ _ h => h) (Or.inl ⟨by rfl, ?_⟩) hHeld ?_
                    rotate_left
                    · (intro w hSw; obtain ⟨p3, pl, d0, d1, d2, dl⟩ := HFL.out _ (hSw); go_simp <;> with_reducible rfl)
                    try simp only [pqZ]
                    refine tkZ (i := 10) (oi := ⟨some 101, _, _, _, _, _⟩) (v := ?_) rfl (by kernel_rfl) (fun _ _ _ h => h) (Or.inl ⟨by rfl, ?_⟩) hHeld ?_
                    rotate_left
                    · (intro w hSw; obtain ⟨p3, pl, d0, d1, d2, dl⟩ := HFL.out _ (hSw); go_simp <;> with_reducible rfl)
                    try simp only [pqZ]
                    refine wpAnyH_ready (rs := [17]) (by kernel_rfl) (by simp) ?_
                    refine AllReadyH.cons (o := ⟨some 108, _, _, _, _, _⟩) rfl (fun K hK => ?_) AllReadyH.nil
                    go_simp
                    refine (HU2.out _).mono ?_
                    rintro e y2 ⟨rfl, hb2⟩
                    have hKeep := since_step hHeld hb2
                    clear hb2
                    go_wp2_with fail
                    refine hK.out _ _ (by (try dsimp only); exact hKeep) (fun hHeld => ?_)
                    clear hK K hKeep
                    try simp only [pqZ]
                    refine tkZ (i := 18) (oi := ⟨some 109, _, _, _, _, _⟩) (v := ?_) rfl (by kernel_rfl) (fun _ _ _ h => h) (Or.inl ⟨by rfl, ?_⟩) hHeld ?_
                    rotate_left
                    · (intro w hSw; obtain ⟨p3, pl, d0, d1, d2, dl⟩ := HFL.out _ (hSw); go_simp <;> with_reducible rfl)
                    try simp only [pqZ]
                    refine tkZ (i := 19) (oi := ⟨some 110, _, _, _, _, _⟩) (v := ?_) rfl (by kernel_rfl) (fun _ _ _ h => h) (Or.inl ⟨by rfl, ?_⟩) hHeld ?_
                    rotate_left
                    · (intro w hSw; obtain ⟨p3, pl, d0, d1, d2, dl⟩ := HFL.out _ (hSw); go_simp <;> with_reducible rfl)
                    try simp only [pqZ]
                    refine wpAnyH_ready (rs := [26]) (by kernel_rfl) (by simp) ?_
                    refine AllReadyH.cons (o := ⟨some 117, _, _, _, _, _⟩) rfl (fun K hK => ?_) AllReadyH.nil
                    go_simp
                    refine (HN1.out _).mono ?_
                    rintro e y3 ⟨rfl, hb3⟩
                    have hKeep := since_step hHeld hb3
                    clear hb3
                    go_wp2_with fail
                    refine hK.out _ _ (by (try dsimp only); exact hKeep) (fun hHeld => ?_)
                    clear hK K hKeep
                    try simp only [pqZ]
                    refine tkZ (i := 27) (oi := ⟨some 118, _, _, _, _, _⟩) (v := ?_) rfl (by kernel_rfl) (fun _ _ _ h => h) (Or.inl ⟨by rfl, ?_⟩) hHeld ?_
                    rotate_left
                    · (intro w hSw; obtain ⟨p3, pl, d0, d1, d2, dl⟩ := HFL.out _ (hSw); go_simp <;> with_reducible rfl)
                    try simp only [pqZ]
                    refine tkZ (i := 28) (oi := ⟨some 3, _, _, _, _, _⟩) (v := ?_) rfl (by kernel_rfl) (fun _ _ _ h => h) (Or.inl ⟨by rfl, ?_⟩) hHeld ?_
                    rotate_left
                    · (intro w hSw; obtain ⟨p3, pl, d0, d1, d2, dl⟩ := HFL.out _ (hSw); go_simp <;> with_reducible rfl)
                    try simp only [pqZ]
                    refine wpAnyH_done (by kernel_rfl) ?_ _
                    have hWN := since_step HWR.out hHeld
                    go_wp2_with fail
                    go_roundw
                    case rel => exact ⟨i + 1, by omega, by go_num, HTJ3.out, hWN⟩
                    case measure => simp [intOf]; omega
                  · obtain rfl : i = xl.length := by omega
                    rw [List.take_length, HTJ5.out]
                    have hWN := since_step HW5.out hW4
                    obtain ⟨k0, k1, k2, k3, kl⟩ := HF.out _ hW4
                    clear hW4
                    go_wp2_with fail
                    go_roundw
                    case rel => exact ⟨j + 1, by omega, by go_num, rfl, hWN⟩
                    case measure => simp [intOf]; omega
              · obtain rfl : j = rets.length := by omega
                rw [List.take_length]
                have hB9 := (HKY.out wr hW4).2
                obtain ⟨k0, k1, k2, k3, kl⟩ := HCE.out _ hW4
                clear hW4
                go_wp2_with fail
                go_ret
                exact ⟨by rw [HRB.out]; rfl, hB9⟩
end Go.Proofs.YtpmnjojednbnpaaGreatDoor
end
