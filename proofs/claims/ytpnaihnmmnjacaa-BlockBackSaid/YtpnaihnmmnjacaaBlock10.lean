/-
  Layer 22, tenth part: BlockBack (laid by gen_block10.py).
-/
import Derived.Test.YtpnaihnmmnjacaaBlock9
namespace Go.Proofs.Ytpnaihnmmnjacaa
open Go.ChangeShapes Go.WideShapes Go.ChangeAt Go.RowKit
set_option linter.unusedVariables false
set_option linter.unusedSimpArgs false

/-! plain mathematics of a group that is changed -/
theorem leftG_id (g : Gr) (n : Int) : (leftG g n).id = g.id := rfl
theorem setG_self {l : List Gr} {id : Int} (h : hasG l id = true) : setG l id (findG l id).left = l := by
  rcases casesG l id with ⟨h0, _⟩ | ⟨k, hk, _, hat, hf, _⟩
  · rw [h0] at h; cases h
  · rw [setG, hat, hf]
    have : leftG l[k] l[k].left = l[k] := rfl
    rw [this]
    simp
theorem setG_find {l : List Gr} {id : Int} (h : hasG l id = true) (n : Int) : findG (setG l id n) id = leftG (findG l id) n ∧ hasG (setG l id n) id = true ∧ atL (idG id) (setG l id n) = atL (idG id) l := by
  rcases casesG l id with ⟨h0, _⟩ | ⟨k, hk, _, hat, hf, hid, hb⟩
  · rw [h0] at h; cases h
  · have e : setG l id n = l.set k (leftG l[k] n) := by rw [setG, hat, hf]; rfl
    have hk2 : k < (l.set k (leftG l[k] n)).length := by simpa using hk
    have h1 : idG id ((l.set k (leftG l[k] n))[k]) = true := by simpa [idG, leftG] using hid
    have h2 : ∀ j, (hj : j < k) → idG id ((l.set k (leftG l[k] n))[j]'(by simp; omega)) = false := fun j hj => by
      rw [List.getElem_set, if_neg (by omega)]; exact hb j hj
    have hfs := find_some hk2 h2 h1
    rw [e]
    refine ⟨?_, by rw [hasG, hfs]; rfl, by rw [hat]; exact atL_some hk2 h2 h1⟩
    rw [findG, pickL, hfs, hf]
    simp
theorem setG_setG {l : List Gr} {id : Int} (h : hasG l id = true) (a b : Int) : setG (setG l id a) id b = setG l id b := by
  obtain ⟨h1, h2, h3⟩ := setG_find h a
  rw [setG, h3, h1]
  rw [show setG l id a = l.set (atL (idG id) l).toNat (leftG (findG l id) a) from rfl, show setG l id b = l.set (atL (idG id) l).toNat (leftG (findG l id) b) from rfl, List.set_set]
  rfl
theorem GOk.set {l : List Gr} {id n : Int} (h : GOk l) (hn : inQ n = true) : GOk (setG l id n) := fun g hg => by
  rcases List.mem_or_eq_of_mem_set hg with h1 | h1
  · exact h g h1
  · rw [h1]; exact hn
def Btw (y x : Int) : Prop := (0 ≤ y ∧ y ≤ x) ∨ (x ≤ y ∧ y ≤ 0)
theorem alloc_step {l : List Gr} {id x y p : Int} (h : hasG l id = true) (hx : (findG l id).left = x) (hq : inQ x = true) (hy : Btw y x) :
    (∃ n, n ≠ 0 ∧ allocR (setG l id y) id p = (n, [])) ∨ (allocR (setG l id y) id p = (0, setG l id (y - p)) ∧ Btw (y - p) x ∧ backR (setG l id (y - p)) id p = (0, setG l id y) ∧ In64 p) := by
  obtain ⟨h1, h2, h3⟩ := setG_find h y
  obtain ⟨k1, k2, k3⟩ := setG_find h (y - p)
  have e1 : (findG (setG l id y) id).left = y := by rw [h1]; rfl
  have e2 : (findG (setG l id (y - p)) id).left = y - p := by rw [k1]; rfl
  unfold inQ at hq
  simp only [Bool.and_eq_true, decide_eq_true_eq] at hq
  unfold allocR backR
  rw [if_pos h2, e1, if_pos k2, e2]
  by_cases c1 : allocBad p y
  · rw [if_pos c1]; exact .inl ⟨2, by decide, rfl⟩
  rw [if_neg c1]
  by_cases c2 : allocHeld p y
  · rw [if_pos c2]; exact .inl ⟨23, by decide, rfl⟩
  rw [if_neg c2]
  refine .inr ⟨by rw [setG_setG h], ?_, ?_, ?_⟩
  · unfold allocBad at c1; unfold allocHeld at c2; unfold Btw at *; omega
  · have e3 : y - p + p = y := by omega
    rw [e3, if_pos (by unfold inQ; simp only [Bool.and_eq_true, decide_eq_true_eq]; unfold Btw at hy; omega), setG_setG h]
  · unfold allocBad at c1; unfold allocHeld at c2; unfold Btw at hy; unfold In64; omega
theorem back_none {l : List Gr} {id p : Int} (h : hasG l id = false) : allocR l id p = (11, []) := by rw [allocR, if_neg (by rw [h]; decide)]

/-- a row that does not lie in one block -/
def SlN (g : Nat) (w : World) (A : Option Addr) (xs : List Value) : Prop := Sl w A xs ∧ ∀ b o, A = some ⟨b, o, none⟩ → xs ≠ [] → b ≠ g
section
variable {g : Nat} {w w' : World} {A : Option Addr} {xs : List Value}
theorem SlN.below (h : SlN g w A xs) (hb : Below w.heap.size w w') : SlN g w' A xs := ⟨h.1.below hb, h.2⟩
theorem SlN.alloc (h : SlN g w A xs) (o : Obj) : SlN g (w.alloc o) A xs := ⟨h.1.alloc o, h.2⟩
theorem SlN.drew (h : SlN g w A xs) : SlN g w.drew A xs := h
theorem SlN.set (h : SlN g w A xs) {p : Addr} (hp : p.block = g) (v : Value) : SlN g (w.setCell p v) A xs := by
  refine ⟨fun hne => ?_, h.2⟩
  exact h.1.far (fun b o hA => by rw [hp]; exact h.2 b o hA hne) v hne
theorem SlN.of_old (h : Sl w A xs) (hg : w.heap.size ≤ g) : SlN g w A xs := ⟨h, fun b o hA hne => by
  obtain ⟨b', o', hA', hc⟩ := h hne
  rw [hA] at hA'; injection hA' with e; injection e with e1 e2
  subst e1
  cases xs with
  | nil => exact absurd rfl hne
  | cons u r =>
    have := World.block_lt_of_cell? _ _ (hc 0 u rfl)
    simp at this
    omega⟩
theorem SlN.of_new {B : Nat} {e : TypeId} {size n c : Nat} (h : w.ownsRow B e size (.slice A n c) n xs) (hg : g < B) : SlN g w A xs := ⟨Sl.of_own h, fun b o hA hne => by
  subst hA
  have := own_ge h b rfl
  omega⟩
end
theorem Gr.Bx.setFar {w : World} {b : Nat} {g : Gr} (h : Gr.Bx w b g) {p : Addr} (hp : p.block ≠ b) (v : Value) : Gr.Bx (w.setCell p v) b g := by
  refine ⟨by simpa using h.lt, ?_, ?_⟩
  · refine Gr.at_keep h.at_ fun i => ?_
    rw [World.cell?_setCell_other _ _ _ _ (fun e => hp (by rw [e]))]
  · rw [← h.hp]
    unfold World.setCell
    simp [Array.getElem?_modify, hp]
def RelB (R : List Gr) (id x : Int) (pv : Gr) (N g7 g10 : Nat) (w : World) (now i : Value) (wr : World) : Prop :=
  ∃ (k : Nat) (y : Int) (A : Option Addr) (c : Nat) (s : Bool) (A7 : Option Addr) (n7 c7 : Nat), k ≤ N ∧ i = .int .i64 k ∧ now = .slice A R.length c ∧ SlN g10 wr A (rc Gr.cells (setG R id y)) ∧ Btw y x ∧ BX (g10 + 1) wr g10 s A7 n7 c7 (x - y) ∧ Gr.Bx wr g7 pv ∧ Below w.heap.size w wr
def RelZ (R : List Gr) (N g10 : Nat) (A : Option Addr) (c : Nat) (w : World) (now i : Value) (wr : World) : Prop :=
  ∃ k : Nat, k ≤ N ∧ i = .int .i64 k ∧ now = .slice A R.length c ∧ Sl wr A (rc Gr.cells R) ∧ BX (g10 + 1) wr g10 false none 0 0 0 ∧ Below w.heap.size w wr

set_option maxHeartbeats 32000000 in
set_option maxRecDepth 100000 in
theorem walk_BlockBack (a0 : Option Addr) (n0 c0 : Nat) (a1 : Int) (a2 : Option Addr) (n2 c2 : Nat) (w : World) (w0 : Rd w (.sl (.cat (.int .i64) (.cat (.cat (.int .i64) (.cat (.int .i64) .nil)) (.cat (.int .i64) (.cat (.int .i64) (.cat (.int .i64) .nil)))))) [.slice a0 n0 c0]) (w1 : (Lit.int .i64 a1).wf = true) (w2 : Rd w (.sl (.int .i64)) [.slice a2 n2 c2]) :
    Calls Try.prog 13 #[.slice a0 n0 c0, .int .i64 a1, .slice a2 n2 c2] w fun e w' => e = .returned (.bool true) ∧ Below w.heap.size w w' := by
  obtain ⟨l, rfl, _, _, hsl⟩ := rd_rows (f := Gr.cells) (fun r => rd_grow) w0
  obtain ⟨ps, rfl, hpc, hpm, hsp, hpw⟩ := rd_ints w2
  have HP64 : Hid (∀ k, (h : k < ps.length) → In64 ps[k]) := Lib.hid fun k h => bd_i64 (hpw _ (List.getElem_mem h))
  clear w0 w1 w2 hpw
  unfold maxLen at hpm
  go_enter Try.func13, Try.ntmps13
  go_wp2_with fail
  refine (rgtable_any a0 c0 l _ hsl).mono ?_
  rintro e z1 ⟨⟨R, AT, cT, rfl, ownT, hok, hR70⟩, hb1⟩
  have hT := Sl.of_own ownT
  clear ownT hsl
  obtain ⟨pv, hpv⟩ : ∃ y, findG R a1 = y := ⟨_, rfl⟩
  obtain ⟨pq, hpq⟩ : ∃ y, hasG R a1 = y := ⟨_, rfl⟩
  have HF := rgfind_any AT cT R a1 z1 (by omega) hT
  rw [hpv, hpq] at HF
  unfold Gr.val at HF
  go_wp2_with fail
  refine HF.mono ?_
  rintro e z2 ⟨rfl, hb2⟩
  have hB := since_step hb1 hb2
  have hT := hT.below hb2
  have hzw := hB.size
  clear HF hb1 hb2
  go_upto_region 5 with fail
  have hT := ((SlN.of_old (g := z2.heap.size + 1) hT (by omega)).alloc (.cells #[.int .i64 pv.id, .int .i64 pv.ac, .int .i64 pv.cl, .int .i64 pv.ins, .int .i64 pv.pr, .int .i64 pv.left] 102)).alloc (.cells #[.bool false, .slice none 0 0] 69)
  have hP := (Gr.Bx.new z2 pv).below ((Below.refl _ _).alloc (Nat.le_refl _) (.cells #[.bool false, .slice none 0 0] 69))
  have hX := BX.new (w := z2.alloc (.cells #[.int .i64 pv.id, .int .i64 pv.ac, .int .i64 pv.cl, .int .i64 pv.ins, .int .i64 pv.pr, .int .i64 pv.left] 102)) (B := z2.heap.size + 1 + 1) (by simp) 69
  rw [World.size_alloc] at hX
  have hB := (hB.alloc hzw (.cells #[.int .i64 pv.id, .int .i64 pv.ac, .int .i64 pv.cl, .int .i64 pv.ins, .int .i64 pv.pr, .int .i64 pv.left] 102)).alloc (by simp; omega) (.cells #[.bool false, .slice none 0 0] 69)
  unfold Gr.cells at hP
  generalize hWW : (z2.alloc (.cells #[.int .i64 pv.id, .int .i64 pv.ac, .int .i64 pv.cl, .int .i64 pv.ins, .int .i64 pv.pr, .int .i64 pv.left] 102)).alloc (.cells #[.bool false, .slice none 0 0] 69) = W at *
  clear hWW
  generalize z2.heap.size = g7 at *
  have h64 := hok.in64
  cases pq with
  | false =>
    have HN : Hid (∀ p, allocR R a1 p = (11, [])) := Lib.hid fun p => back_none hpq
    have HA := Lib.hid (fun p (hp : In64 p) W h => galloc_any AT cT R a1 p hp W (by omega) h64 h)
    clear hpv hpq hP
    have hT := hT.1
    go_wp2_with fail
    go_loopw [9, 11] (fun now i wr => RelZ R ps.length (g7 + 1) AT cT w now i wr) (fun _ i _ => ps.length - (intOf i).toNat)
    case atStart => exact ⟨0, by omega, rfl, rfl, hT, hX, hB⟩
    case round =>
      obtain ⟨k, hk, rfl, rfl, hTr, hXr, hBr⟩ := hrel
      clear hT hX hB
      by_cases hgo : k < ps.length ∧ k < 20
      · obtain ⟨hlt, hlt2⟩ := hgo
        obtain ⟨b, o, rfl, hc⟩ := (hsp.below hBr).int hlt
        have hp64 := HP64.out k hlt
        have hlk : (k : Int) < (ps.length : Int) := by omega
        have hlk2 : (k : Int) < 20 := by omega
        have HA := Lib.hid (HA.out ps[k] hp64 wr hTr)
        rw [HN.out] at HA
        generalize ps[k] = p at *
        go_wp2_with fail
        refine HA.out.mono ?_
        rintro e u1 ⟨⟨A1, c1, rfl, _⟩, hb1⟩
        have hB2 := since_step hBr hb1
        have hT2 := hTr.below hb1
        have hX2 := hXr.below hb1
        go_wp2_with fail
        go_roundw
        case rel => exact ⟨k + 1, by omega, by go_num, rfl, hT2, hX2, hB2⟩
        case measure => simp [intOf]; omega
      · have hend : ¬ ((k : Int) < (ps.length : Int)) ∨ ((k : Int) < (ps.length : Int) ∧ ¬ ((k : Int) < 20)) := by omega
        clear hgo
        obtain ⟨b1, b2, b3, b4, b5⟩ := hXr.bb
        rcases hend with h1 | ⟨h1, h2⟩
        all_goals
          go_wp2_with fail
          refine (lives22_any _).mono ?_
          rintro e u2 ⟨rfl, hb2⟩
          have hB3 := since_step hBr hb2
          go_wp2_with fail
          go_ret
          exact ⟨rfl, hB3⟩
  | true =>
    obtain ⟨x, hx⟩ : ∃ x, pv.left = x := ⟨_, rfl⟩
    have hfx : (findG R a1).left = x := by rw [hpv, hx]
    have hxq : inQ x = true := by
      rcases casesG R a1 with ⟨h0, _⟩ | ⟨k, hk, _, hat, hf, _⟩
      · rw [h0] at hpq; cases hpq
      · rw [hf] at hfx; rw [← hfx]; exact hok _ (List.getElem_mem hk)
    have hxr : -1099511627776 ≤ x ∧ x ≤ 1099511627776 := by unfold inQ at hxq; simp at hxq; omega
    have hself : setG R a1 x = R := by rw [← hfx]; exact setG_self hpq
    have HST := Lib.hid (fun y p hy => alloc_step (p := p) (y := y) hpq hfx hxq hy)
    have HFN : Hid (∀ n, findG (setG R a1 n) a1 = leftG pv n ∧ hasG (setG R a1 n) a1 = true) := Lib.hid fun n => by
      obtain ⟨h1, h2, _⟩ := setG_find hpq n
      exact ⟨by rw [h1, hpv], h2⟩
    have HLN : Hid (∀ n, (setG R a1 n).length = R.length) := Lib.hid fun n => setG_length _ _ _
    have HOK : Hid (∀ y, Btw y x → ∀ g ∈ setG R a1 y, In64 g.left) := Lib.hid fun y hy => (GOk.set hok (by unfold inQ Btw at *; simp; omega)).in64
    have HXE := Lib.hid hx
    have HX64 := Lib.hid (fun W => bof_any pv.left W (by omega))
    rw [← hself] at hT
    clear hok hpv hfx hself hxq h64 hx hpq
    go_wp2_with fail
    go_loopw [9, 11] (fun now i wr => RelB R a1 x pv ps.length g7 (g7 + 1) w now i wr) (fun _ i _ => ps.length - (intOf i).toNat)
    case atStart => exact ⟨0, x, AT, cT, false, none, 0, 0, by omega, rfl, rfl, hT, by unfold Btw; omega, by rw [Int.sub_self]; exact hX, hP, hB⟩
    case round =>
      obtain ⟨k, y, A, c, s7, A7, n7, c7, hk, rfl, rfl, hC, hy, X7, hPr, hBr⟩ := hrel
      clear hT hX hP hB
      have hyr : -1099511627776 ≤ y ∧ y ≤ 1099511627776 := by unfold Btw at hy; omega
      by_cases hgo : k < ps.length ∧ k < 20
      · obtain ⟨hlt, hlt2⟩ := hgo
        obtain ⟨b, o, rfl, hcw⟩ := hsp.int hlt
        have hbw := World.block_lt_of_cell? _ _ hcw
        have HPC : Hid (∀ V, Below w.heap.size w V → V.cell? ⟨b, o + k, none⟩ = some (.int .i64 ps[k])) := Lib.hid fun V hV => (hV.cell (p := ⟨b, o + k, none⟩) hbw).trans hcw
        have hp64 := HP64.out k hlt
        have hlk : (k : Int) < (ps.length : Int) := by omega
        have hlk2 : (k : Int) < 20 := by omega
        have hge : (0 : Int) ≤ (k : Int) := by omega
        generalize ps[k] = p at *
        have hl0 := HLN.out y
        have HA := galloc_any A c (setG R a1 y) a1 p hp64 wr (by rw [hl0]; omega) (HOK.out y hy) hC.1
        rw [hl0] at HA
        have HB : Hid (∀ n V A' c', Btw n x → Sl V A' (rc Gr.cells (setG R a1 n)) → Calls Try.prog 73 #[.slice A' R.length c', .int .i64 a1, .int .i64 p] V fun e w' => GRes V.heap.size w' e (backR (setG R a1 n) a1 p) ∧ Below V.heap.size V w') := Lib.hid fun n V A' c' hn hs => by
          have := gback_any A' c' (setG R a1 n) a1 p hp64 V (by rw [HLN.out]; omega) (HOK.out n hn) hs
          rw [HLN.out] at this
          exact this
        have HFD : Hid (∀ n V A' c', Sl V A' (rc Gr.cells (setG R a1 n)) → Calls Try.prog 75 #[.slice A' R.length c', .int .i64 a1] V fun e w' => e = .returned (.tuple #[.agg #[.int .i64 pv.id, .int .i64 pv.ac, .int .i64 pv.cl, .int .i64 pv.ins, .int .i64 pv.pr, .int .i64 n], .bool true]) ∧ Below V.heap.size V w') := Lib.hid fun n V A' c' hs => by
          have := gfind_any A' c' (setG R a1 n) a1 V (by rw [HLN.out]; omega) hs
          rw [HLN.out, (HFN.out n).1, (HFN.out n).2] at this
          exact this
        have HSM : Hid (∀ V A1 A2 c1 c2, Sl V A1 (rc Gr.cells (setG R a1 y)) → Sl V A2 (rc Gr.cells (setG R a1 y)) → Calls Try.prog 77 #[.slice A1 R.length c1, .slice A2 R.length c2] V fun e w' => e = .returned (.bool true) ∧ Below V.heap.size V w') := Lib.hid fun V A1 A2 c1 c2 h1 h2 => by
          have := gsame_any_self A1 A2 c1 c2 (setG R a1 y) V (by rw [HLN.out]; omega) h1 h2
          rw [HLN.out] at this
          exact this
        have HOP := Lib.hid (fun W => bof_any p W hp64)
        have hzX : In128 (x - y) := by unfold In128; omega
        have hL7 := X7.at_.l128 hzX
        have hcp := HPC.out wr hBr
        rcases HST.out y p hy with ⟨n, hn, hAR⟩ | ⟨hAR, hy2, hBK, hpq⟩
        · rw [hAR] at HA
          have HA := Lib.hid HA
          have hnb : (n != 0) = true := by simpa using hn
          clear hAR hn HST HFN HOK HB HFD HSM HOP HX64
          go_wp2_with fail
          refine HA.out.mono ?_
          rintro e u1 ⟨⟨A1, c1, rfl, _⟩, hb1⟩
          have hB2 := since_step hBr hb1
          have hC2 := hC.below hb1
          have hX2 := X7.below hb1
          have hP2 := hPr.below hb1
          go_wp2_with fail
          go_roundw
          case rel => exact ⟨k + 1, y, A, c, s7, A7, n7, c7, by omega, by go_num, rfl, hC2, hy, hX2, hP2, hB2⟩
          case measure => simp [intOf]; omega
        · rw [hAR] at HA
          have HA := Lib.hid HA
          have hnp64 : In64 (y - p) := by unfold In64; unfold Btw at hy2; omega
          have hx64 : In64 pv.left := by rw [HXE.out]; unfold In64; omega
          have hzX2 : In128 (x - (y - p)) := by unfold In128; unfold Btw at hy2; omega
          have HNP := Lib.hid (fun W => bof_any (y - p) W hnp64)
          have HBK := Lib.hid hBK
          have hgw : w.heap.size ≤ wr.heap.size := hBr.size
          have hgl : g7 + 1 < wr.heap.size := X7.bb.1
          have hgw7 : w.heap.size ≤ g7 := by omega
          clear hAR hBK HST HFN HOK
          go_wp2_with fail
          refine HA.out.mono ?_
          rintro e u1 ⟨⟨A1, c1, rfl, hown⟩, hb1⟩
          have hN : SlN (g7 + 1) u1 A1 (rc Gr.cells (setG R a1 (y - p))) := SlN.of_new hown hgl
          have hBr := since_step hBr hb1
          have hC := hC.below hb1
          have X7 := X7.below hb1
          have hPr := hPr.below hb1
          clear hown hb1 HA hcp
          dsimp only
          rw [HLN.out]
          go_wp2_with fail
          have X7 := X7.drew
          have hN := hN.drew
          have hC := hC.drew
          have hPr : Gr.Bx u1.drew g7 pv := ⟨hPr.lt, hPr.at_, hPr.hp⟩
          refine wp_region_held_drew (S := (fun V => Below w.heap.size w V)) (by kernel_rfl) (by exact hBr.drew) (fun hHeld => ?_)
          refine wpAnyH_take (i := 1) (oi := { dst := some 51, op := _, type := _, pos := _, after := _, guard := _ }) (v := ?_) rfl (by kernel_rfl) (by kernel_rfl) (by kernel_rfl) (fun _ _ _ h => h) (Or.inl ⟨by rfl, ?_⟩) hHeld ?_
          rotate_left
          · (intro w hSw; have hcp := HPC.out _ hSw; go_simp <;> with_reducible rfl)
          try simp only [Act.put, List.setIfInBounds_toArray, List.set_cons_zero, List.set_cons_succ]
          refine wpAnyH_take (i := 2) (oi := { dst := some 52, op := _, type := _, pos := _, after := _, guard := _ }) (v := ?_) rfl (by kernel_rfl) (by kernel_rfl) (by kernel_rfl) (fun _ _ _ h => h) (Or.inl ⟨by rfl, ?_⟩) hHeld ?_
          rotate_left
          · (intro w hSw; have hcp := HPC.out _ hSw; go_simp <;> with_reducible rfl)
          try simp only [Act.put, List.setIfInBounds_toArray, List.set_cons_zero, List.set_cons_succ]
          refine wpAnyH_take (i := 3) (oi := { dst := some 53, op := _, type := _, pos := _, after := _, guard := _ }) (v := ?_) rfl (by kernel_rfl) (by kernel_rfl) (by kernel_rfl) (fun _ _ _ h => h) (Or.inl ⟨by rfl, ?_⟩) hHeld ?_
          rotate_left
          · (intro w hSw; have hcp := HPC.out _ hSw; go_simp <;> with_reducible rfl)
          try simp only [Act.put, List.setIfInBounds_toArray, List.set_cons_zero, List.set_cons_succ]
          refine wpAnyH_take (i := 4) (oi := { dst := some 54, op := _, type := _, pos := _, after := _, guard := _ }) (v := ?_) rfl (by kernel_rfl) (by kernel_rfl) (by kernel_rfl) (fun _ _ _ h => h) (Or.inl ⟨by rfl, ?_⟩) hHeld ?_
          rotate_left
          · (intro w hSw; have hcp := HPC.out _ hSw; go_simp <;> with_reducible rfl)
          try simp only [Act.put, List.setIfInBounds_toArray, List.set_cons_zero, List.set_cons_succ]
          refine wpAnyH_ready (rs := [0, 5]) (by kernel_rfl) (by simp) ?_
          refine AllReadyH.cons (o := { dst := some 50, op := _, type := _, pos := _, after := _, guard := _ }) rfl (fun K hK => ?_) (AllReadyH.cons (o := { dst := some 55, op := _, type := _, pos := _, after := _, guard := _ }) rfl (fun K hK => ?_) AllReadyH.nil)
          · have hHd := hHeld
            have hcp := HPC.out _ hHd
            obtain ⟨b1, b2, b3, b4, b5⟩ := id X7.bb
            have hKeep := hHeld
            go_simp
            refine hK.out _ _ (by (try dsimp only); exact hKeep) (fun hHeld => ?_)
            clear hK K hKeep
            try simp only [Act.put, List.setIfInBounds_toArray, List.set_cons_zero, List.set_cons_succ]
            refine wpAnyH_ready (rs := [5]) (by kernel_rfl) (by simp) ?_
            refine AllReadyH.cons (o := { dst := some 55, op := _, type := _, pos := _, after := _, guard := _ }) rfl (fun K hK => ?_) AllReadyH.nil
            go_simp
            refine (HOP.out _).mono ?_
            rintro e v1 ⟨⟨s1, A1', m1, d1, rfl, hf1, Y1⟩, hk1⟩
            have hKeep := since_step hHeld hk1
            have L1 := Y1.l64 hp64
            have X7 := X7.below hk1
            have hN := hN.below hk1
            have hC := hC.below hk1
            have hPr := hPr.below hk1
            go_wp2_with fail
            refine hK.out _ _ (by (try dsimp only); exact hKeep) (fun hHeld => ?_)
            clear hK K hKeep
            try simp only [Act.put, List.setIfInBounds_toArray, List.set_cons_zero, List.set_cons_succ]
            refine wpAnyH_ready (rs := [6]) (by kernel_rfl) (by simp) ?_
            refine AllReadyH.cons (o := { dst := some 56, op := _, type := _, pos := _, after := _, guard := _ }) rfl (fun K hK => ?_) AllReadyH.nil
            go_simp
            refine (badd' (by omega) (by omega) X7.at_ Y1).mono ?_
            rintro e v2 ⟨⟨s2, A2', m2, d2, rfl, hf2, Y2⟩, hk2⟩
            have hz1 := X7.bb.1
            have hKeep := since_step hHeld hk2
            have X7 := X7.below hk2
            have hN := hN.below hk2
            have hC := hC.below hk2
            have hPr := hPr.below hk2
            go_wp2_with fail
            refine hK.out _ _ (by (try dsimp only); exact hKeep) (fun hHeld => ?_)
            clear hK K hKeep
            try simp only [Act.put, List.setIfInBounds_toArray, List.set_cons_zero, List.set_cons_succ]
            refine wpAnyH_ready (rs := [7]) (by kernel_rfl) (by simp) ?_
            refine AllReadyH.cons (o := { dst := none, op := _, type := _, pos := _, after := _, guard := _ }) rfl (fun K hK => ?_) AllReadyH.nil
            have hHd := hHeld
            have hcp := HPC.out _ hHd
            have X7n := X7.put Y2 (hf2.le (by omega) (Nat.le_refl _))
            obtain ⟨b1, b2, b3, b4, b5⟩ := id X7.bb
            have hN := (hN.set (p := ⟨g7 + 1, 0, none⟩) rfl (.bool s2)).set (p := ⟨g7 + 1, 1, none⟩) rfl (.slice A2' m2 d2)
            have hC := (hC.set (p := ⟨g7 + 1, 0, none⟩) rfl (.bool s2)).set (p := ⟨g7 + 1, 1, none⟩) rfl (.slice A2' m2 d2)
            have hPr := (hPr.setFar (p := ⟨g7 + 1, 0, none⟩) (by show g7 + 1 ≠ g7; omega) (.bool s2)).setFar (p := ⟨g7 + 1, 1, none⟩) (by show g7 + 1 ≠ g7; omega) (.slice A2' m2 d2)
            have hKeep : Below w.heap.size w ((v2.setCell ⟨g7 + 1, 0, none⟩ (.bool s2)).setCell ⟨g7 + 1, 1, none⟩ (.slice A2' m2 d2)) := Below.setCell (Below.setCell hHeld (by show w.heap.size ≤ g7 + 1; omega) _) (by show w.heap.size ≤ g7 + 1; omega) _
            skip
            go_simp
            refine hK.out _ _ (by (try dsimp only); exact hKeep) (fun hHeld => ?_)
            clear hK K hKeep
            try simp only [Act.put, List.setIfInBounds_toArray, List.set_cons_zero, List.set_cons_succ]
            refine wpAnyH_done (by kernel_rfl) ?_ _
            generalize hFW : (v2.setCell ⟨g7 + 1, 0, none⟩ (.bool s2)).setCell ⟨g7 + 1, 1, none⟩ (.slice A2' m2 d2) = U at *
            clear hFW
            have hBU := hHeld
            have eXY : x - y + p = x - (y - p) := by omega
            rw [eXY] at X7n
            clear b1 b2 b3 b4 b5 hz1 Y1 Y2 X7 eXY
            go_wp2_with fail
            refine (HFD.out (y - p) _ A1 c1 hN.1).mono ?_
            rintro e u4 ⟨rfl, hk5⟩
            have hBW5 := since_alloc (since_step hBU hk5) (.cells #[.int .i64 pv.id, .int .i64 pv.ac, .int .i64 pv.cl, .int .i64 pv.ins, .int .i64 pv.pr, .int .i64 (y - p)] 102)
            have hA5 := (Below.refl u4.heap.size u4).alloc (Nat.le_refl _) (.cells #[.int .i64 pv.id, .int .i64 pv.ac, .int .i64 pv.cl, .int .i64 pv.ins, .int .i64 pv.pr, .int .i64 (y - p)] 102)
            have hX5 := (X7n.below hk5).below hA5
            have hN5 := (hN.below hk5).below hA5
            have hC5 := (hC.below hk5).below hA5
            have hP5 := (hPr.below hk5).below hA5
            have hG5 := Gr.Bx.new u4 ⟨pv.id, pv.ac, pv.cl, pv.ins, pv.pr, y - p⟩
            unfold Gr.cells at hG5
            simp only at hG5
            clear hk5 hA5 X7n hN hC hPr hBU hHeld
            go_upto_region 12 with fail
            generalize hWW : u4.alloc (.cells #[.int .i64 pv.id, .int .i64 pv.ac, .int .i64 pv.cl, .int .i64 pv.ins, .int .i64 pv.pr, .int .i64 (y - p)] 102) = U5 at *
            clear hWW
            have HX8 : Hid (∀ V, Below U5.heap.size U5 V → BX (g7 + 1 + 1) V (g7 + 1) s2 A2' m2 d2 (x - (y - p))) := Lib.hid fun V hV => hX5.below hV
            have HN8 : Hid (∀ V, Below U5.heap.size U5 V → SlN (g7 + 1) V A1 (rc Gr.cells (setG R a1 (y - p)))) := Lib.hid fun V hV => hN5.below hV
            have HC8 : Hid (∀ V, Below U5.heap.size U5 V → SlN (g7 + 1) V A (rc Gr.cells (setG R a1 y))) := Lib.hid fun V hV => hC5.below hV
            have HP8 : Hid (∀ V, Below U5.heap.size U5 V → Gr.Bx V g7 pv) := Lib.hid fun V hV => hP5.below hV
            have HH : Hid (∀ V, Below U5.heap.size U5 V → BB V (g7 + 1) s2 A2' m2 d2 ∧ BigAt V s2 A2' m2 d2 (x - (y - p)) ∧ Gr.Bx V g7 pv ∧ Gr.Bx V u4.heap.size ⟨pv.id, pv.ac, pv.cl, pv.ins, pv.pr, y - p⟩) := Lib.hid fun V hV => ⟨(hX5.below hV).bb, (hX5.below hV).at_, hP5.below hV, hG5.below hV⟩
            have hsw5 := hBW5.size
            have hm2 := hX5.at_.l128 hzX2
            have HC0 : Hid (cmpZ (x - (y - p) + (y - p)) pv.left = 0) := Lib.hid (by rw [HXE.out, show x - (y - p) + (y - p) = x by omega]; exact cmp_same x)
            clear hX5 hN5 hC5 hP5 hG5
            by_cases hz : y - p = 0
            · have e1 : (y - p != 0) = false := by simpa using hz
              clear hz
              go_wp2_with fail
              refine wp_region_held_drew (S := (fun V => Below U5.heap.size U5 V)) (by kernel_rfl) (by exact (Below.refl _ _).drew) (fun hHeld => ?_)
              refine wpAnyH_take (i := 0) (oi := { dst := some 63, op := _, type := _, pos := _, after := _, guard := _ }) (v := ?_) rfl (by kernel_rfl) (by kernel_rfl) (by kernel_rfl) (fun _ _ _ h => h) (Or.inl ⟨by rfl, ?_⟩) hHeld ?_
              rotate_left
              · (intro w hSw; obtain ⟨⟨b1, b2, b3, b4, b5⟩, _, hp9, hg9⟩ := HH.out _ hSw; obtain ⟨p0, p1, p2, p3, p4, p5⟩ := hp9.got; obtain ⟨q0, q1, q2, q3, q4, q5⟩ := hg9.got; go_simp <;> with_reducible rfl)
              try simp only [Act.put, List.setIfInBounds_toArray, List.set_cons_zero, List.set_cons_succ]
              refine wpAnyH_take (i := 1) (oi := { dst := some 64, op := _, type := _, pos := _, after := _, guard := _ }) (v := ?_) rfl (by kernel_rfl) (by kernel_rfl) (by kernel_rfl) (fun _ _ _ h => h) (Or.inl ⟨by rfl, ?_⟩) hHeld ?_
              rotate_left
              · (intro w hSw; obtain ⟨⟨b1, b2, b3, b4, b5⟩, _, hp9, hg9⟩ := HH.out _ hSw; obtain ⟨p0, p1, p2, p3, p4, p5⟩ := hp9.got; obtain ⟨q0, q1, q2, q3, q4, q5⟩ := hg9.got; go_simp <;> with_reducible rfl)
              try simp only [Act.put, List.setIfInBounds_toArray, List.set_cons_zero, List.set_cons_succ]
              refine wpAnyH_take (i := 2) (oi := { dst := some 65, op := _, type := _, pos := _, after := _, guard := _ }) (v := ?_) rfl (by kernel_rfl) (by kernel_rfl) (by kernel_rfl) (fun _ _ _ h => h) (Or.inl ⟨by rfl, ?_⟩) hHeld ?_
              rotate_left
              · (intro w hSw; obtain ⟨⟨b1, b2, b3, b4, b5⟩, _, hp9, hg9⟩ := HH.out _ hSw; obtain ⟨p0, p1, p2, p3, p4, p5⟩ := hp9.got; obtain ⟨q0, q1, q2, q3, q4, q5⟩ := hg9.got; go_simp <;> with_reducible rfl)
              try simp only [Act.put, List.setIfInBounds_toArray, List.set_cons_zero, List.set_cons_succ]
              refine wpAnyH_take (i := 5) (oi := { dst := some 68, op := _, type := _, pos := _, after := _, guard := _ }) (v := ?_) rfl (by kernel_rfl) (by kernel_rfl) (by kernel_rfl) (fun _ _ _ h => h) (Or.inl ⟨by rfl, ?_⟩) hHeld ?_
              rotate_left
              · (intro w hSw; obtain ⟨⟨b1, b2, b3, b4, b5⟩, _, hp9, hg9⟩ := HH.out _ hSw; obtain ⟨p0, p1, p2, p3, p4, p5⟩ := hp9.got; obtain ⟨q0, q1, q2, q3, q4, q5⟩ := hg9.got; go_simp <;> with_reducible rfl)
              try simp only [Act.put, List.setIfInBounds_toArray, List.set_cons_zero, List.set_cons_succ]
              refine wpAnyH_take (i := 6) (oi := { dst := some 69, op := _, type := _, pos := _, after := _, guard := _ }) (v := ?_) rfl (by kernel_rfl) (by kernel_rfl) (by kernel_rfl) (fun _ _ _ h => h) (Or.inl ⟨by rfl, ?_⟩) hHeld ?_
              rotate_left
              · (intro w hSw; obtain ⟨⟨b1, b2, b3, b4, b5⟩, _, hp9, hg9⟩ := HH.out _ hSw; obtain ⟨p0, p1, p2, p3, p4, p5⟩ := hp9.got; obtain ⟨q0, q1, q2, q3, q4, q5⟩ := hg9.got; go_simp <;> with_reducible rfl)
              try simp only [Act.put, List.setIfInBounds_toArray, List.set_cons_zero, List.set_cons_succ]
              refine wpAnyH_ready (rs := [3]) (by kernel_rfl) (by simp) ?_
              refine AllReadyH.cons (o := { dst := some 66, op := _, type := _, pos := _, after := _, guard := _ }) rfl (fun K hK => ?_) AllReadyH.nil
              go_simp
              refine (HNP.out _).mono ?_
              rintro e v3 ⟨⟨t1, E1, i1, j1, rfl, hf1', Z1⟩, hk1⟩
              have hKeep := since_step hHeld hk1
              have M1 := Z1.l64 hnp64
              go_wp2_with fail
              refine hK.out _ _ (by (try dsimp only); exact hKeep) (fun hHeld => ?_)
              clear hK K hKeep
              try simp only [Act.put, List.setIfInBounds_toArray, List.set_cons_zero, List.set_cons_succ]
              refine wpAnyH_ready (rs := [4]) (by kernel_rfl) (by simp) ?_
              refine AllReadyH.cons (o := { dst := some 67, op := _, type := _, pos := _, after := _, guard := _ }) rfl (fun K hK => ?_) AllReadyH.nil
              go_simp
              refine (badd' (by omega) (by omega) (HH.out _ hHeld).2.1 Z1).mono ?_
              rintro e v4 ⟨⟨t2, E2, i2, j2, rfl, hf2', Z2⟩, hk2⟩
              have hKeep := since_step hHeld hk2
              have M2 := len_add (HH.out _ hHeld).2.1 Z1 Z2
              go_wp2_with fail
              refine hK.out _ _ (by (try dsimp only); exact hKeep) (fun hHeld => ?_)
              clear hK K hKeep
              try simp only [Act.put, List.setIfInBounds_toArray, List.set_cons_zero, List.set_cons_succ]
              refine wpAnyH_ready (rs := [7]) (by kernel_rfl) (by simp) ?_
              refine AllReadyH.cons (o := { dst := some 70, op := _, type := _, pos := _, after := _, guard := _ }) rfl (fun K hK => ?_) AllReadyH.nil
              go_simp
              refine (HX64.out _).mono ?_
              rintro e v5 ⟨⟨t3, E3, i3, j3, rfl, hf3', Z3⟩, hk3⟩
              have hKeep := since_step hHeld hk3
              have M3 := Z3.l64 hx64
              have Z2 := Z2.below hk3
              go_wp2_with fail
              refine hK.out _ _ (by (try dsimp only); exact hKeep) (fun hHeld => ?_)
              clear hK K hKeep
              try simp only [Act.put, List.setIfInBounds_toArray, List.set_cons_zero, List.set_cons_succ]
              refine wpAnyH_ready (rs := [8]) (by kernel_rfl) (by simp) ?_
              refine AllReadyH.cons (o := { dst := some 71, op := _, type := _, pos := _, after := _, guard := _ }) rfl (fun K hK => ?_) AllReadyH.nil
              go_simp
              refine (bcmp_any _ _ _ _ _ _ _ _ _ _ _ (by omega) (by omega) Z2 Z3).mono ?_
              rintro e v6 ⟨rfl, hk4⟩
              have hKeep := since_step hHeld hk4
              rw [HC0.out]
              go_wp2_with fail
              refine hK.out _ _ (by (try dsimp only); exact hKeep) (fun hHeld => ?_)
              clear hK K hKeep
              try simp only [Act.put, List.setIfInBounds_toArray, List.set_cons_zero, List.set_cons_succ]
              refine wpAnyH_take (i := 9) (oi := { dst := some 72, op := _, type := _, pos := _, after := _, guard := _ }) (v := ?_) rfl (by kernel_rfl) (by kernel_rfl) (by kernel_rfl) (fun _ _ _ h => h) (Or.inl ⟨by rfl, ?_⟩) hHeld ?_
              rotate_left
              · (intro w hSw; obtain ⟨⟨b1, b2, b3, b4, b5⟩, _, hp9, hg9⟩ := HH.out _ hSw; obtain ⟨p0, p1, p2, p3, p4, p5⟩ := hp9.got; obtain ⟨q0, q1, q2, q3, q4, q5⟩ := hg9.got; go_simp <;> with_reducible rfl)
              try simp only [Act.put, List.setIfInBounds_toArray, List.set_cons_zero, List.set_cons_succ]
              refine wpAnyH_take (i := 10) (oi := { dst := some 73, op := _, type := _, pos := _, after := _, guard := _ }) (v := ?_) rfl (by kernel_rfl) (by kernel_rfl) (by kernel_rfl) (fun _ _ _ h => h) (Or.inl ⟨by rfl, ?_⟩) hHeld ?_
              rotate_left
              · (intro w hSw; obtain ⟨⟨b1, b2, b3, b4, b5⟩, _, hp9, hg9⟩ := HH.out _ hSw; obtain ⟨p0, p1, p2, p3, p4, p5⟩ := hp9.got; obtain ⟨q0, q1, q2, q3, q4, q5⟩ := hg9.got; go_simp <;> with_reducible rfl)
              try simp only [Act.put, List.setIfInBounds_toArray, List.set_cons_zero, List.set_cons_succ]
              refine wpAnyH_take (i := 11) (oi := { dst := some 74, op := _, type := _, pos := _, after := _, guard := _ }) (v := ?_) rfl (by kernel_rfl) (by kernel_rfl) (by kernel_rfl) (fun _ _ _ h => h) (Or.inl ⟨by rfl, ?_⟩) hHeld ?_
              rotate_left
              · (intro w hSw; obtain ⟨⟨b1, b2, b3, b4, b5⟩, _, hp9, hg9⟩ := HH.out _ hSw; obtain ⟨p0, p1, p2, p3, p4, p5⟩ := hp9.got; obtain ⟨q0, q1, q2, q3, q4, q5⟩ := hg9.got; go_simp <;> with_reducible rfl)
              try simp only [Act.put, List.setIfInBounds_toArray, List.set_cons_zero, List.set_cons_succ]
              refine wpAnyH_take (i := 12) (oi := { dst := some 75, op := _, type := _, pos := _, after := _, guard := _ }) (v := ?_) rfl (by kernel_rfl) (by kernel_rfl) (by kernel_rfl) (fun _ _ _ h => h) (Or.inl ⟨by rfl, ?_⟩) hHeld ?_
              rotate_left
              · (intro w hSw; obtain ⟨⟨b1, b2, b3, b4, b5⟩, _, hp9, hg9⟩ := HH.out _ hSw; obtain ⟨p0, p1, p2, p3, p4, p5⟩ := hp9.got; obtain ⟨q0, q1, q2, q3, q4, q5⟩ := hg9.got; go_simp <;> with_reducible rfl)
              try simp only [Act.put, List.setIfInBounds_toArray, List.set_cons_zero, List.set_cons_succ]
              refine wpAnyH_take (i := 13) (oi := { dst := some 76, op := _, type := _, pos := _, after := _, guard := _ }) (v := ?_) rfl (by kernel_rfl) (by kernel_rfl) (by kernel_rfl) (fun _ _ _ h => h) (Or.inl ⟨by rfl, ?_⟩) hHeld ?_
              rotate_left
              · (intro w hSw; obtain ⟨⟨b1, b2, b3, b4, b5⟩, _, hp9, hg9⟩ := HH.out _ hSw; obtain ⟨p0, p1, p2, p3, p4, p5⟩ := hp9.got; obtain ⟨q0, q1, q2, q3, q4, q5⟩ := hg9.got; go_simp <;> with_reducible rfl)
              try simp only [Act.put, List.setIfInBounds_toArray, List.set_cons_zero, List.set_cons_succ]
              refine wpAnyH_take (i := 14) (oi := { dst := some 77, op := _, type := _, pos := _, after := _, guard := _ }) (v := ?_) rfl (by kernel_rfl) (by kernel_rfl) (by kernel_rfl) (fun _ _ _ h => h) (Or.inl ⟨by rfl, ?_⟩) hHeld ?_
              rotate_left
              · (intro w hSw; obtain ⟨⟨b1, b2, b3, b4, b5⟩, _, hp9, hg9⟩ := HH.out _ hSw; obtain ⟨p0, p1, p2, p3, p4, p5⟩ := hp9.got; obtain ⟨q0, q1, q2, q3, q4, q5⟩ := hg9.got; go_simp <;> with_reducible rfl)
              try simp only [Act.put, List.setIfInBounds_toArray, List.set_cons_zero, List.set_cons_succ]
              refine wpAnyH_take (i := 15) (oi := { dst := some 78, op := _, type := _, pos := _, after := _, guard := _ }) (v := undef) rfl (by kernel_rfl) (by kernel_rfl) (by kernel_rfl) (fun _ _ _ h => h) (Or.inr ⟨by rfl, rfl⟩) hHeld ?_
              try simp only [Act.put, List.setIfInBounds_toArray, List.set_cons_zero, List.set_cons_succ]
              refine wpAnyH_take (i := 16) (oi := { dst := some 79, op := _, type := _, pos := _, after := _, guard := _ }) (v := undef) rfl (by kernel_rfl) (by kernel_rfl) (by kernel_rfl) (fun _ _ _ h => h) (Or.inr ⟨by rfl, rfl⟩) hHeld ?_
              try simp only [Act.put, List.setIfInBounds_toArray, List.set_cons_zero, List.set_cons_succ]
              refine wpAnyH_take (i := 17) (oi := { dst := some 80, op := _, type := _, pos := _, after := _, guard := _ }) (v := undef) rfl (by kernel_rfl) (by kernel_rfl) (by kernel_rfl) (fun _ _ _ h => h) (Or.inr ⟨by rfl, rfl⟩) hHeld ?_
              try simp only [Act.put, List.setIfInBounds_toArray, List.set_cons_zero, List.set_cons_succ]
              refine wpAnyH_take (i := 18) (oi := { dst := some 81, op := _, type := _, pos := _, after := _, guard := _ }) (v := undef) rfl (by kernel_rfl) (by kernel_rfl) (by kernel_rfl) (fun _ _ _ h => h) (Or.inr ⟨by rfl, rfl⟩) hHeld ?_
              try simp only [Act.put, List.setIfInBounds_toArray, List.set_cons_zero, List.set_cons_succ]
              refine wpAnyH_take (i := 19) (oi := { dst := some 82, op := _, type := _, pos := _, after := _, guard := _ }) (v := undef) rfl (by kernel_rfl) (by kernel_rfl) (by kernel_rfl) (fun _ _ _ h => h) (Or.inr ⟨by rfl, rfl⟩) hHeld ?_
              try simp only [Act.put, List.setIfInBounds_toArray, List.set_cons_zero, List.set_cons_succ]
              refine wpAnyH_take (i := 20) (oi := { dst := some 83, op := _, type := _, pos := _, after := _, guard := _ }) (v := undef) rfl (by kernel_rfl) (by kernel_rfl) (by kernel_rfl) (fun _ _ _ h => h) (Or.inr ⟨by rfl, rfl⟩) hHeld ?_
              try simp only [Act.put, List.setIfInBounds_toArray, List.set_cons_zero, List.set_cons_succ]
              refine wpAnyH_take (i := 21) (oi := { dst := some 84, op := _, type := _, pos := _, after := _, guard := _ }) (v := undef) rfl (by kernel_rfl) (by kernel_rfl) (by kernel_rfl) (fun _ _ _ h => h) (Or.inr ⟨by rfl, rfl⟩) hHeld ?_
              try simp only [Act.put, List.setIfInBounds_toArray, List.set_cons_zero, List.set_cons_succ]
              refine wpAnyH_take (i := 22) (oi := { dst := some 85, op := _, type := _, pos := _, after := _, guard := _ }) (v := ?_) rfl (by kernel_rfl) (by kernel_rfl) (by kernel_rfl) (fun _ _ _ h => h) (Or.inl ⟨by rfl, ?_⟩) hHeld ?_
              rotate_left
              · (intro w hSw; obtain ⟨⟨b1, b2, b3, b4, b5⟩, _, hp9, hg9⟩ := HH.out _ hSw; obtain ⟨p0, p1, p2, p3, p4, p5⟩ := hp9.got; obtain ⟨q0, q1, q2, q3, q4, q5⟩ := hg9.got; go_simp <;> with_reducible rfl)
              try simp only [Act.put, List.setIfInBounds_toArray, List.set_cons_zero, List.set_cons_succ]
              refine wpAnyH_take (i := 23) (oi := { dst := some 86, op := _, type := _, pos := _, after := _, guard := _ }) (v := ?_) rfl (by kernel_rfl) (by kernel_rfl) (by kernel_rfl) (fun _ _ _ h => h) (Or.inl ⟨by rfl, ?_⟩) hHeld ?_
              rotate_left
              · (intro w hSw; obtain ⟨⟨b1, b2, b3, b4, b5⟩, _, hp9, hg9⟩ := HH.out _ hSw; obtain ⟨p0, p1, p2, p3, p4, p5⟩ := hp9.got; obtain ⟨q0, q1, q2, q3, q4, q5⟩ := hg9.got; go_simp <;> with_reducible rfl)
              try simp only [Act.put, List.setIfInBounds_toArray, List.set_cons_zero, List.set_cons_succ]
              refine wpAnyH_done (by kernel_rfl) ?_ _
              have hBf := hBW5.trans (hHeld.mono hsw5)
              have hX8 := HX8.out _ hHeld
              have hN8 := HN8.out _ hHeld
              have hC8 := HC8.out _ hHeld
              have hP8 := HP8.out _ hHeld
              have hcp := HPC.out _ hBf
              clear HH
              go_wp2_with fail
              refine (HB.out (y - p) _ A1 c1 hy2 hN8.1).mono ?_
              rw [HBK.out]
              rintro e y1 ⟨⟨A6, c6, rfl, hown6⟩, hk6⟩
              have hBf := since_step hBf hk6
              have hX8 := hX8.below hk6
              have hN8 := hN8.below hk6
              have hC8 := hC8.below hk6
              have hP8 := hP8.below hk6
              have hS6 := Sl.of_own hown6
              have hl6 := HLN.out y
              clear hown6 hk6 hcp
              dsimp only
              rw [hl6]
              go_wp2_with fail
              refine (HSM.out _ A6 A c6 c hS6 hC8.1).mono ?_
              rintro e y2 ⟨rfl, hk7⟩
              have hBf := since_step hBf hk7
              have hX8 := hX8.below hk7
              have hN8 := hN8.below hk7
              have hP8 := hP8.below hk7
              go_wp2_with fail
              go_roundw
              case rel => exact ⟨k + 1, y - p, A1, c1, s2, A2', m2, d2, by omega, by go_num, rfl, hN8, hy2, hX8, hP8, hBf⟩
              case measure => simp [intOf]; omega
            · have e1 : (y - p != 0) = true := by simpa using hz
              have e2 : decide (y - p < 0) = decide (pv.left < 0) := by rw [HXE.out]; congr 1; unfold Btw at hy2; apply propext; omega
              clear hz
              go_wp2_with fail
              refine wp_region_held_drew (S := (fun V => Below U5.heap.size U5 V)) (by kernel_rfl) (by exact (Below.refl _ _).drew) (fun hHeld => ?_)
              refine wpAnyH_take (i := 0) (oi := { dst := some 63, op := _, type := _, pos := _, after := _, guard := _ }) (v := ?_) rfl (by kernel_rfl) (by kernel_rfl) (by kernel_rfl) (fun _ _ _ h => h) (Or.inl ⟨by rfl, ?_⟩) hHeld ?_
              rotate_left
              · (intro w hSw; obtain ⟨⟨b1, b2, b3, b4, b5⟩, _, hp9, hg9⟩ := HH.out _ hSw; obtain ⟨p0, p1, p2, p3, p4, p5⟩ := hp9.got; obtain ⟨q0, q1, q2, q3, q4, q5⟩ := hg9.got; go_simp <;> with_reducible rfl)
              try simp only [Act.put, List.setIfInBounds_toArray, List.set_cons_zero, List.set_cons_succ]
              refine wpAnyH_take (i := 1) (oi := { dst := some 64, op := _, type := _, pos := _, after := _, guard := _ }) (v := ?_) rfl (by kernel_rfl) (by kernel_rfl) (by kernel_rfl) (fun _ _ _ h => h) (Or.inl ⟨by rfl, ?_⟩) hHeld ?_
              rotate_left
              · (intro w hSw; obtain ⟨⟨b1, b2, b3, b4, b5⟩, _, hp9, hg9⟩ := HH.out _ hSw; obtain ⟨p0, p1, p2, p3, p4, p5⟩ := hp9.got; obtain ⟨q0, q1, q2, q3, q4, q5⟩ := hg9.got; go_simp <;> with_reducible rfl)
              try simp only [Act.put, List.setIfInBounds_toArray, List.set_cons_zero, List.set_cons_succ]
              refine wpAnyH_take (i := 2) (oi := { dst := some 65, op := _, type := _, pos := _, after := _, guard := _ }) (v := ?_) rfl (by kernel_rfl) (by kernel_rfl) (by kernel_rfl) (fun _ _ _ h => h) (Or.inl ⟨by rfl, ?_⟩) hHeld ?_
              rotate_left
              · (intro w hSw; obtain ⟨⟨b1, b2, b3, b4, b5⟩, _, hp9, hg9⟩ := HH.out _ hSw; obtain ⟨p0, p1, p2, p3, p4, p5⟩ := hp9.got; obtain ⟨q0, q1, q2, q3, q4, q5⟩ := hg9.got; go_simp <;> with_reducible rfl)
              try simp only [Act.put, List.setIfInBounds_toArray, List.set_cons_zero, List.set_cons_succ]
              refine wpAnyH_take (i := 5) (oi := { dst := some 68, op := _, type := _, pos := _, after := _, guard := _ }) (v := ?_) rfl (by kernel_rfl) (by kernel_rfl) (by kernel_rfl) (fun _ _ _ h => h) (Or.inl ⟨by rfl, ?_⟩) hHeld ?_
              rotate_left
              · (intro w hSw; obtain ⟨⟨b1, b2, b3, b4, b5⟩, _, hp9, hg9⟩ := HH.out _ hSw; obtain ⟨p0, p1, p2, p3, p4, p5⟩ := hp9.got; obtain ⟨q0, q1, q2, q3, q4, q5⟩ := hg9.got; go_simp <;> with_reducible rfl)
              try simp only [Act.put, List.setIfInBounds_toArray, List.set_cons_zero, List.set_cons_succ]
              refine wpAnyH_take (i := 6) (oi := { dst := some 69, op := _, type := _, pos := _, after := _, guard := _ }) (v := ?_) rfl (by kernel_rfl) (by kernel_rfl) (by kernel_rfl) (fun _ _ _ h => h) (Or.inl ⟨by rfl, ?_⟩) hHeld ?_
              rotate_left
              · (intro w hSw; obtain ⟨⟨b1, b2, b3, b4, b5⟩, _, hp9, hg9⟩ := HH.out _ hSw; obtain ⟨p0, p1, p2, p3, p4, p5⟩ := hp9.got; obtain ⟨q0, q1, q2, q3, q4, q5⟩ := hg9.got; go_simp <;> with_reducible rfl)
              try simp only [Act.put, List.setIfInBounds_toArray, List.set_cons_zero, List.set_cons_succ]
              refine wpAnyH_ready (rs := [3]) (by kernel_rfl) (by simp) ?_
              refine AllReadyH.cons (o := { dst := some 66, op := _, type := _, pos := _, after := _, guard := _ }) rfl (fun K hK => ?_) AllReadyH.nil
              go_simp
              refine (HNP.out _).mono ?_
              rintro e v3 ⟨⟨t1, E1, i1, j1, rfl, hf1', Z1⟩, hk1⟩
              have hKeep := since_step hHeld hk1
              have M1 := Z1.l64 hnp64
              go_wp2_with fail
              refine hK.out _ _ (by (try dsimp only); exact hKeep) (fun hHeld => ?_)
              clear hK K hKeep
              try simp only [Act.put, List.setIfInBounds_toArray, List.set_cons_zero, List.set_cons_succ]
              refine wpAnyH_ready (rs := [4]) (by kernel_rfl) (by simp) ?_
              refine AllReadyH.cons (o := { dst := some 67, op := _, type := _, pos := _, after := _, guard := _ }) rfl (fun K hK => ?_) AllReadyH.nil
              go_simp
              refine (badd' (by omega) (by omega) (HH.out _ hHeld).2.1 Z1).mono ?_
              rintro e v4 ⟨⟨t2, E2, i2, j2, rfl, hf2', Z2⟩, hk2⟩
              have hKeep := since_step hHeld hk2
              have M2 := len_add (HH.out _ hHeld).2.1 Z1 Z2
              go_wp2_with fail
              refine hK.out _ _ (by (try dsimp only); exact hKeep) (fun hHeld => ?_)
              clear hK K hKeep
              try simp only [Act.put, List.setIfInBounds_toArray, List.set_cons_zero, List.set_cons_succ]
              refine wpAnyH_ready (rs := [7]) (by kernel_rfl) (by simp) ?_
              refine AllReadyH.cons (o := { dst := some 70, op := _, type := _, pos := _, after := _, guard := _ }) rfl (fun K hK => ?_) AllReadyH.nil
              go_simp
              refine (HX64.out _).mono ?_
              rintro e v5 ⟨⟨t3, E3, i3, j3, rfl, hf3', Z3⟩, hk3⟩
              have hKeep := since_step hHeld hk3
              have M3 := Z3.l64 hx64
              have Z2 := Z2.below hk3
              go_wp2_with fail
              refine hK.out _ _ (by (try dsimp only); exact hKeep) (fun hHeld => ?_)
              clear hK K hKeep
              try simp only [Act.put, List.setIfInBounds_toArray, List.set_cons_zero, List.set_cons_succ]
              refine wpAnyH_ready (rs := [8]) (by kernel_rfl) (by simp) ?_
              refine AllReadyH.cons (o := { dst := some 71, op := _, type := _, pos := _, after := _, guard := _ }) rfl (fun K hK => ?_) AllReadyH.nil
              go_simp
              refine (bcmp_any _ _ _ _ _ _ _ _ _ _ _ (by omega) (by omega) Z2 Z3).mono ?_
              rintro e v6 ⟨rfl, hk4⟩
              have hKeep := since_step hHeld hk4
              rw [HC0.out]
              go_wp2_with fail
              refine hK.out _ _ (by (try dsimp only); exact hKeep) (fun hHeld => ?_)
              clear hK K hKeep
              try simp only [Act.put, List.setIfInBounds_toArray, List.set_cons_zero, List.set_cons_succ]
              refine wpAnyH_take (i := 9) (oi := { dst := some 72, op := _, type := _, pos := _, after := _, guard := _ }) (v := ?_) rfl (by kernel_rfl) (by kernel_rfl) (by kernel_rfl) (fun _ _ _ h => h) (Or.inl ⟨by rfl, ?_⟩) hHeld ?_
              rotate_left
              · (intro w hSw; obtain ⟨⟨b1, b2, b3, b4, b5⟩, _, hp9, hg9⟩ := HH.out _ hSw; obtain ⟨p0, p1, p2, p3, p4, p5⟩ := hp9.got; obtain ⟨q0, q1, q2, q3, q4, q5⟩ := hg9.got; go_simp <;> with_reducible rfl)
              try simp only [Act.put, List.setIfInBounds_toArray, List.set_cons_zero, List.set_cons_succ]
              refine wpAnyH_take (i := 10) (oi := { dst := some 73, op := _, type := _, pos := _, after := _, guard := _ }) (v := ?_) rfl (by kernel_rfl) (by kernel_rfl) (by kernel_rfl) (fun _ _ _ h => h) (Or.inl ⟨by rfl, ?_⟩) hHeld ?_
              rotate_left
              · (intro w hSw; obtain ⟨⟨b1, b2, b3, b4, b5⟩, _, hp9, hg9⟩ := HH.out _ hSw; obtain ⟨p0, p1, p2, p3, p4, p5⟩ := hp9.got; obtain ⟨q0, q1, q2, q3, q4, q5⟩ := hg9.got; go_simp <;> with_reducible rfl)
              try simp only [Act.put, List.setIfInBounds_toArray, List.set_cons_zero, List.set_cons_succ]
              refine wpAnyH_take (i := 11) (oi := { dst := some 74, op := _, type := _, pos := _, after := _, guard := _ }) (v := ?_) rfl (by kernel_rfl) (by kernel_rfl) (by kernel_rfl) (fun _ _ _ h => h) (Or.inl ⟨by rfl, ?_⟩) hHeld ?_
              rotate_left
              · (intro w hSw; obtain ⟨⟨b1, b2, b3, b4, b5⟩, _, hp9, hg9⟩ := HH.out _ hSw; obtain ⟨p0, p1, p2, p3, p4, p5⟩ := hp9.got; obtain ⟨q0, q1, q2, q3, q4, q5⟩ := hg9.got; go_simp <;> with_reducible rfl)
              try simp only [Act.put, List.setIfInBounds_toArray, List.set_cons_zero, List.set_cons_succ]
              refine wpAnyH_take (i := 12) (oi := { dst := some 75, op := _, type := _, pos := _, after := _, guard := _ }) (v := ?_) rfl (by kernel_rfl) (by kernel_rfl) (by kernel_rfl) (fun _ _ _ h => h) (Or.inl ⟨by rfl, ?_⟩) hHeld ?_
              rotate_left
              · (intro w hSw; obtain ⟨⟨b1, b2, b3, b4, b5⟩, _, hp9, hg9⟩ := HH.out _ hSw; obtain ⟨p0, p1, p2, p3, p4, p5⟩ := hp9.got; obtain ⟨q0, q1, q2, q3, q4, q5⟩ := hg9.got; go_simp <;> with_reducible rfl)
              try simp only [Act.put, List.setIfInBounds_toArray, List.set_cons_zero, List.set_cons_succ]
              refine wpAnyH_take (i := 13) (oi := { dst := some 76, op := _, type := _, pos := _, after := _, guard := _ }) (v := ?_) rfl (by kernel_rfl) (by kernel_rfl) (by kernel_rfl) (fun _ _ _ h => h) (Or.inl ⟨by rfl, ?_⟩) hHeld ?_
              rotate_left
              · (intro w hSw; obtain ⟨⟨b1, b2, b3, b4, b5⟩, _, hp9, hg9⟩ := HH.out _ hSw; obtain ⟨p0, p1, p2, p3, p4, p5⟩ := hp9.got; obtain ⟨q0, q1, q2, q3, q4, q5⟩ := hg9.got; go_simp <;> with_reducible rfl)
              try simp only [Act.put, List.setIfInBounds_toArray, List.set_cons_zero, List.set_cons_succ]
              refine wpAnyH_take (i := 14) (oi := { dst := some 77, op := _, type := _, pos := _, after := _, guard := _ }) (v := ?_) rfl (by kernel_rfl) (by kernel_rfl) (by kernel_rfl) (fun _ _ _ h => h) (Or.inl ⟨by rfl, ?_⟩) hHeld ?_
              rotate_left
              · (intro w hSw; obtain ⟨⟨b1, b2, b3, b4, b5⟩, _, hp9, hg9⟩ := HH.out _ hSw; obtain ⟨p0, p1, p2, p3, p4, p5⟩ := hp9.got; obtain ⟨q0, q1, q2, q3, q4, q5⟩ := hg9.got; go_simp <;> with_reducible rfl)
              try simp only [Act.put, List.setIfInBounds_toArray, List.set_cons_zero, List.set_cons_succ]
              refine wpAnyH_take (i := 15) (oi := { dst := some 78, op := _, type := _, pos := _, after := _, guard := _ }) (v := ?_) rfl (by kernel_rfl) (by kernel_rfl) (by kernel_rfl) (fun _ _ _ h => h) (Or.inl ⟨by rfl, ?_⟩) hHeld ?_
              rotate_left
              · (intro w hSw; obtain ⟨⟨b1, b2, b3, b4, b5⟩, _, hp9, hg9⟩ := HH.out _ hSw; obtain ⟨p0, p1, p2, p3, p4, p5⟩ := hp9.got; obtain ⟨q0, q1, q2, q3, q4, q5⟩ := hg9.got; go_simp <;> with_reducible rfl)
              try simp only [Act.put, List.setIfInBounds_toArray, List.set_cons_zero, List.set_cons_succ]
              refine wpAnyH_take (i := 16) (oi := { dst := some 79, op := _, type := _, pos := _, after := _, guard := _ }) (v := ?_) rfl (by kernel_rfl) (by kernel_rfl) (by kernel_rfl) (fun _ _ _ h => h) (Or.inl ⟨by rfl, ?_⟩) hHeld ?_
              rotate_left
              · (intro w hSw; obtain ⟨⟨b1, b2, b3, b4, b5⟩, _, hp9, hg9⟩ := HH.out _ hSw; obtain ⟨p0, p1, p2, p3, p4, p5⟩ := hp9.got; obtain ⟨q0, q1, q2, q3, q4, q5⟩ := hg9.got; go_simp <;> with_reducible rfl)
              try simp only [Act.put, List.setIfInBounds_toArray, List.set_cons_zero, List.set_cons_succ]
              refine wpAnyH_take (i := 17) (oi := { dst := some 80, op := _, type := _, pos := _, after := _, guard := _ }) (v := ?_) rfl (by kernel_rfl) (by kernel_rfl) (by kernel_rfl) (fun _ _ _ h => h) (Or.inl ⟨by rfl, ?_⟩) hHeld ?_
              rotate_left
              · (intro w hSw; obtain ⟨⟨b1, b2, b3, b4, b5⟩, _, hp9, hg9⟩ := HH.out _ hSw; obtain ⟨p0, p1, p2, p3, p4, p5⟩ := hp9.got; obtain ⟨q0, q1, q2, q3, q4, q5⟩ := hg9.got; go_simp <;> with_reducible rfl)
              try simp only [Act.put, List.setIfInBounds_toArray, List.set_cons_zero, List.set_cons_succ]
              refine wpAnyH_take (i := 18) (oi := { dst := some 81, op := _, type := _, pos := _, after := _, guard := _ }) (v := ?_) rfl (by kernel_rfl) (by kernel_rfl) (by kernel_rfl) (fun _ _ _ h => h) (Or.inl ⟨by rfl, ?_⟩) hHeld ?_
              rotate_left
              · (intro w hSw; obtain ⟨⟨b1, b2, b3, b4, b5⟩, _, hp9, hg9⟩ := HH.out _ hSw; obtain ⟨p0, p1, p2, p3, p4, p5⟩ := hp9.got; obtain ⟨q0, q1, q2, q3, q4, q5⟩ := hg9.got; go_simp <;> with_reducible rfl)
              try simp only [Act.put, List.setIfInBounds_toArray, List.set_cons_zero, List.set_cons_succ]
              refine wpAnyH_take (i := 19) (oi := { dst := some 82, op := _, type := _, pos := _, after := _, guard := _ }) (v := ?_) rfl (by kernel_rfl) (by kernel_rfl) (by kernel_rfl) (fun _ _ _ h => h) (Or.inl ⟨by rfl, ?_⟩) hHeld ?_
              rotate_left
              · (intro w hSw; obtain ⟨⟨b1, b2, b3, b4, b5⟩, _, hp9, hg9⟩ := HH.out _ hSw; obtain ⟨p0, p1, p2, p3, p4, p5⟩ := hp9.got; obtain ⟨q0, q1, q2, q3, q4, q5⟩ := hg9.got; go_simp <;> with_reducible rfl)
              try simp only [Act.put, List.setIfInBounds_toArray, List.set_cons_zero, List.set_cons_succ]
              refine wpAnyH_take (i := 20) (oi := { dst := some 83, op := _, type := _, pos := _, after := _, guard := _ }) (v := ?_) rfl (by kernel_rfl) (by kernel_rfl) (by kernel_rfl) (fun _ _ _ h => h) (Or.inl ⟨by rfl, ?_⟩) hHeld ?_
              rotate_left
              · (intro w hSw; obtain ⟨⟨b1, b2, b3, b4, b5⟩, _, hp9, hg9⟩ := HH.out _ hSw; obtain ⟨p0, p1, p2, p3, p4, p5⟩ := hp9.got; obtain ⟨q0, q1, q2, q3, q4, q5⟩ := hg9.got; go_simp <;> with_reducible rfl)
              try simp only [Act.put, List.setIfInBounds_toArray, List.set_cons_zero, List.set_cons_succ]
              refine wpAnyH_take (i := 21) (oi := { dst := some 84, op := _, type := _, pos := _, after := _, guard := _ }) (v := ?_) rfl (by kernel_rfl) (by kernel_rfl) (by kernel_rfl) (fun _ _ _ h => h) (Or.inl ⟨by rfl, ?_⟩) hHeld ?_
              rotate_left
              · (intro w hSw; obtain ⟨⟨b1, b2, b3, b4, b5⟩, _, hp9, hg9⟩ := HH.out _ hSw; obtain ⟨p0, p1, p2, p3, p4, p5⟩ := hp9.got; obtain ⟨q0, q1, q2, q3, q4, q5⟩ := hg9.got; go_simp <;> with_reducible rfl)
              try simp only [Act.put, List.setIfInBounds_toArray, List.set_cons_zero, List.set_cons_succ]
              refine wpAnyH_take (i := 22) (oi := { dst := some 85, op := _, type := _, pos := _, after := _, guard := _ }) (v := ?_) rfl (by kernel_rfl) (by kernel_rfl) (by kernel_rfl) (fun _ _ _ h => h) (Or.inl ⟨by rfl, ?_⟩) hHeld ?_
              rotate_left
              · (intro w hSw; obtain ⟨⟨b1, b2, b3, b4, b5⟩, _, hp9, hg9⟩ := HH.out _ hSw; obtain ⟨p0, p1, p2, p3, p4, p5⟩ := hp9.got; obtain ⟨q0, q1, q2, q3, q4, q5⟩ := hg9.got; go_simp <;> with_reducible rfl)
              try simp only [Act.put, List.setIfInBounds_toArray, List.set_cons_zero, List.set_cons_succ]
              refine wpAnyH_take (i := 23) (oi := { dst := some 86, op := _, type := _, pos := _, after := _, guard := _ }) (v := ?_) rfl (by kernel_rfl) (by kernel_rfl) (by kernel_rfl) (fun _ _ _ h => h) (Or.inl ⟨by rfl, ?_⟩) hHeld ?_
              rotate_left
              · (intro w hSw; obtain ⟨⟨b1, b2, b3, b4, b5⟩, _, hp9, hg9⟩ := HH.out _ hSw; obtain ⟨p0, p1, p2, p3, p4, p5⟩ := hp9.got; obtain ⟨q0, q1, q2, q3, q4, q5⟩ := hg9.got; go_simp <;> with_reducible rfl)
              try simp only [Act.put, List.setIfInBounds_toArray, List.set_cons_zero, List.set_cons_succ]
              refine wpAnyH_done (by kernel_rfl) ?_ _
              have hBf := hBW5.trans (hHeld.mono hsw5)
              have hX8 := HX8.out _ hHeld
              have hN8 := HN8.out _ hHeld
              have hC8 := HC8.out _ hHeld
              have hP8 := HP8.out _ hHeld
              have hcp := HPC.out _ hBf
              clear HH
              go_wp2_with fail
              refine (HB.out (y - p) _ A1 c1 hy2 hN8.1).mono ?_
              rw [HBK.out]
              rintro e y1 ⟨⟨A6, c6, rfl, hown6⟩, hk6⟩
              have hBf := since_step hBf hk6
              have hX8 := hX8.below hk6
              have hN8 := hN8.below hk6
              have hC8 := hC8.below hk6
              have hP8 := hP8.below hk6
              have hS6 := Sl.of_own hown6
              have hl6 := HLN.out y
              clear hown6 hk6 hcp
              dsimp only
              rw [hl6]
              go_wp2_with fail
              refine (HSM.out _ A6 A c6 c hS6 hC8.1).mono ?_
              rintro e y2 ⟨rfl, hk7⟩
              have hBf := since_step hBf hk7
              have hX8 := hX8.below hk7
              have hN8 := hN8.below hk7
              have hP8 := hP8.below hk7
              go_wp2_with fail
              go_roundw
              case rel => exact ⟨k + 1, y - p, A1, c1, s2, A2', m2, d2, by omega, by go_num, rfl, hN8, hy2, hX8, hP8, hBf⟩
              case measure => simp [intOf]; omega
            
          · go_simp
            refine (HOP.out _).mono ?_
            rintro e v1 ⟨⟨s1, A1', m1, d1, rfl, hf1, Y1⟩, hk1⟩
            have hKeep := since_step hHeld hk1
            have L1 := Y1.l64 hp64
            have X7 := X7.below hk1
            have hN := hN.below hk1
            have hC := hC.below hk1
            have hPr := hPr.below hk1
            go_wp2_with fail
            refine hK.out _ _ (by (try dsimp only); exact hKeep) (fun hHeld => ?_)
            clear hK K hKeep
            try simp only [Act.put, List.setIfInBounds_toArray, List.set_cons_zero, List.set_cons_succ]
            refine wpAnyH_ready (rs := [0]) (by kernel_rfl) (by simp) ?_
            refine AllReadyH.cons (o := { dst := some 50, op := _, type := _, pos := _, after := _, guard := _ }) rfl (fun K hK => ?_) AllReadyH.nil
            have hHd := hHeld
            have hcp := HPC.out _ hHd
            obtain ⟨b1, b2, b3, b4, b5⟩ := id X7.bb
            have hKeep := hHeld
            go_simp
            refine hK.out _ _ (by (try dsimp only); exact hKeep) (fun hHeld => ?_)
            clear hK K hKeep
            try simp only [Act.put, List.setIfInBounds_toArray, List.set_cons_zero, List.set_cons_succ]
            refine wpAnyH_ready (rs := [6]) (by kernel_rfl) (by simp) ?_
            refine AllReadyH.cons (o := { dst := some 56, op := _, type := _, pos := _, after := _, guard := _ }) rfl (fun K hK => ?_) AllReadyH.nil
            go_simp
            refine (badd' (by omega) (by omega) X7.at_ Y1).mono ?_
            rintro e v2 ⟨⟨s2, A2', m2, d2, rfl, hf2, Y2⟩, hk2⟩
            have hz1 := X7.bb.1
            have hKeep := since_step hHeld hk2
            have X7 := X7.below hk2
            have hN := hN.below hk2
            have hC := hC.below hk2
            have hPr := hPr.below hk2
            go_wp2_with fail
            refine hK.out _ _ (by (try dsimp only); exact hKeep) (fun hHeld => ?_)
            clear hK K hKeep
            try simp only [Act.put, List.setIfInBounds_toArray, List.set_cons_zero, List.set_cons_succ]
            refine wpAnyH_ready (rs := [7]) (by kernel_rfl) (by simp) ?_
            refine AllReadyH.cons (o := { dst := none, op := _, type := _, pos := _, after := _, guard := _ }) rfl (fun K hK => ?_) AllReadyH.nil
            have hHd := hHeld
            have hcp := HPC.out _ hHd
            have X7n := X7.put Y2 (hf2.le (by omega) (Nat.le_refl _))
            obtain ⟨b1, b2, b3, b4, b5⟩ := id X7.bb
            have hN := (hN.set (p := ⟨g7 + 1, 0, none⟩) rfl (.bool s2)).set (p := ⟨g7 + 1, 1, none⟩) rfl (.slice A2' m2 d2)
            have hC := (hC.set (p := ⟨g7 + 1, 0, none⟩) rfl (.bool s2)).set (p := ⟨g7 + 1, 1, none⟩) rfl (.slice A2' m2 d2)
            have hPr := (hPr.setFar (p := ⟨g7 + 1, 0, none⟩) (by show g7 + 1 ≠ g7; omega) (.bool s2)).setFar (p := ⟨g7 + 1, 1, none⟩) (by show g7 + 1 ≠ g7; omega) (.slice A2' m2 d2)
            have hKeep : Below w.heap.size w ((v2.setCell ⟨g7 + 1, 0, none⟩ (.bool s2)).setCell ⟨g7 + 1, 1, none⟩ (.slice A2' m2 d2)) := Below.setCell (Below.setCell hHeld (by show w.heap.size ≤ g7 + 1; omega) _) (by show w.heap.size ≤ g7 + 1; omega) _
            skip
            go_simp
            refine hK.out _ _ (by (try dsimp only); exact hKeep) (fun hHeld => ?_)
            clear hK K hKeep
            try simp only [Act.put, List.setIfInBounds_toArray, List.set_cons_zero, List.set_cons_succ]
            refine wpAnyH_done (by kernel_rfl) ?_ _
            generalize hFW : (v2.setCell ⟨g7 + 1, 0, none⟩ (.bool s2)).setCell ⟨g7 + 1, 1, none⟩ (.slice A2' m2 d2) = U at *
            clear hFW
            have hBU := hHeld
            have eXY : x - y + p = x - (y - p) := by omega
            rw [eXY] at X7n
            clear b1 b2 b3 b4 b5 hz1 Y1 Y2 X7 eXY
            go_wp2_with fail
            refine (HFD.out (y - p) _ A1 c1 hN.1).mono ?_
            rintro e u4 ⟨rfl, hk5⟩
            have hBW5 := since_alloc (since_step hBU hk5) (.cells #[.int .i64 pv.id, .int .i64 pv.ac, .int .i64 pv.cl, .int .i64 pv.ins, .int .i64 pv.pr, .int .i64 (y - p)] 102)
            have hA5 := (Below.refl u4.heap.size u4).alloc (Nat.le_refl _) (.cells #[.int .i64 pv.id, .int .i64 pv.ac, .int .i64 pv.cl, .int .i64 pv.ins, .int .i64 pv.pr, .int .i64 (y - p)] 102)
            have hX5 := (X7n.below hk5).below hA5
            have hN5 := (hN.below hk5).below hA5
            have hC5 := (hC.below hk5).below hA5
            have hP5 := (hPr.below hk5).below hA5
            have hG5 := Gr.Bx.new u4 ⟨pv.id, pv.ac, pv.cl, pv.ins, pv.pr, y - p⟩
            unfold Gr.cells at hG5
            simp only at hG5
            clear hk5 hA5 X7n hN hC hPr hBU hHeld
            go_upto_region 12 with fail
            generalize hWW : u4.alloc (.cells #[.int .i64 pv.id, .int .i64 pv.ac, .int .i64 pv.cl, .int .i64 pv.ins, .int .i64 pv.pr, .int .i64 (y - p)] 102) = U5 at *
            clear hWW
            have HX8 : Hid (∀ V, Below U5.heap.size U5 V → BX (g7 + 1 + 1) V (g7 + 1) s2 A2' m2 d2 (x - (y - p))) := Lib.hid fun V hV => hX5.below hV
            have HN8 : Hid (∀ V, Below U5.heap.size U5 V → SlN (g7 + 1) V A1 (rc Gr.cells (setG R a1 (y - p)))) := Lib.hid fun V hV => hN5.below hV
            have HC8 : Hid (∀ V, Below U5.heap.size U5 V → SlN (g7 + 1) V A (rc Gr.cells (setG R a1 y))) := Lib.hid fun V hV => hC5.below hV
            have HP8 : Hid (∀ V, Below U5.heap.size U5 V → Gr.Bx V g7 pv) := Lib.hid fun V hV => hP5.below hV
            have HH : Hid (∀ V, Below U5.heap.size U5 V → BB V (g7 + 1) s2 A2' m2 d2 ∧ BigAt V s2 A2' m2 d2 (x - (y - p)) ∧ Gr.Bx V g7 pv ∧ Gr.Bx V u4.heap.size ⟨pv.id, pv.ac, pv.cl, pv.ins, pv.pr, y - p⟩) := Lib.hid fun V hV => ⟨(hX5.below hV).bb, (hX5.below hV).at_, hP5.below hV, hG5.below hV⟩
            have hsw5 := hBW5.size
            have hm2 := hX5.at_.l128 hzX2
            have HC0 : Hid (cmpZ (x - (y - p) + (y - p)) pv.left = 0) := Lib.hid (by rw [HXE.out, show x - (y - p) + (y - p) = x by omega]; exact cmp_same x)
            clear hX5 hN5 hC5 hP5 hG5
            by_cases hz : y - p = 0
            · have e1 : (y - p != 0) = false := by simpa using hz
              clear hz
              go_wp2_with fail
              refine wp_region_held_drew (S := (fun V => Below U5.heap.size U5 V)) (by kernel_rfl) (by exact (Below.refl _ _).drew) (fun hHeld => ?_)
              refine wpAnyH_take (i := 0) (oi := { dst := some 63, op := _, type := _, pos := _, after := _, guard := _ }) (v := ?_) rfl (by kernel_rfl) (by kernel_rfl) (by kernel_rfl) (fun _ _ _ h => h) (Or.inl ⟨by rfl, ?_⟩) hHeld ?_
              rotate_left
              · (intro w hSw; obtain ⟨⟨b1, b2, b3, b4, b5⟩, _, hp9, hg9⟩ := HH.out _ hSw; obtain ⟨p0, p1, p2, p3, p4, p5⟩ := hp9.got; obtain ⟨q0, q1, q2, q3, q4, q5⟩ := hg9.got; go_simp <;> with_reducible rfl)
              try simp only [Act.put, List.setIfInBounds_toArray, List.set_cons_zero, List.set_cons_succ]
              refine wpAnyH_take (i := 1) (oi := { dst := some 64, op := _, type := _, pos := _, after := _, guard := _ }) (v := ?_) rfl (by kernel_rfl) (by kernel_rfl) (by kernel_rfl) (fun _ _ _ h => h) (Or.inl ⟨by rfl, ?_⟩) hHeld ?_
              rotate_left
              · (intro w hSw; obtain ⟨⟨b1, b2, b3, b4, b5⟩, _, hp9, hg9⟩ := HH.out _ hSw; obtain ⟨p0, p1, p2, p3, p4, p5⟩ := hp9.got; obtain ⟨q0, q1, q2, q3, q4, q5⟩ := hg9.got; go_simp <;> with_reducible rfl)
              try simp only [Act.put, List.setIfInBounds_toArray, List.set_cons_zero, List.set_cons_succ]
              refine wpAnyH_take (i := 2) (oi := { dst := some 65, op := _, type := _, pos := _, after := _, guard := _ }) (v := ?_) rfl (by kernel_rfl) (by kernel_rfl) (by kernel_rfl) (fun _ _ _ h => h) (Or.inl ⟨by rfl, ?_⟩) hHeld ?_
              rotate_left
              · (intro w hSw; obtain ⟨⟨b1, b2, b3, b4, b5⟩, _, hp9, hg9⟩ := HH.out _ hSw; obtain ⟨p0, p1, p2, p3, p4, p5⟩ := hp9.got; obtain ⟨q0, q1, q2, q3, q4, q5⟩ := hg9.got; go_simp <;> with_reducible rfl)
              try simp only [Act.put, List.setIfInBounds_toArray, List.set_cons_zero, List.set_cons_succ]
              refine wpAnyH_take (i := 5) (oi := { dst := some 68, op := _, type := _, pos := _, after := _, guard := _ }) (v := ?_) rfl (by kernel_rfl) (by kernel_rfl) (by kernel_rfl) (fun _ _ _ h => h) (Or.inl ⟨by rfl, ?_⟩) hHeld ?_
              rotate_left
              · (intro w hSw; obtain ⟨⟨b1, b2, b3, b4, b5⟩, _, hp9, hg9⟩ := HH.out _ hSw; obtain ⟨p0, p1, p2, p3, p4, p5⟩ := hp9.got; obtain ⟨q0, q1, q2, q3, q4, q5⟩ := hg9.got; go_simp <;> with_reducible rfl)
              try simp only [Act.put, List.setIfInBounds_toArray, List.set_cons_zero, List.set_cons_succ]
              refine wpAnyH_take (i := 6) (oi := { dst := some 69, op := _, type := _, pos := _, after := _, guard := _ }) (v := ?_) rfl (by kernel_rfl) (by kernel_rfl) (by kernel_rfl) (fun _ _ _ h => h) (Or.inl ⟨by rfl, ?_⟩) hHeld ?_
              rotate_left
              · (intro w hSw; obtain ⟨⟨b1, b2, b3, b4, b5⟩, _, hp9, hg9⟩ := HH.out _ hSw; obtain ⟨p0, p1, p2, p3, p4, p5⟩ := hp9.got; obtain ⟨q0, q1, q2, q3, q4, q5⟩ := hg9.got; go_simp <;> with_reducible rfl)
              try simp only [Act.put, List.setIfInBounds_toArray, List.set_cons_zero, List.set_cons_succ]
              refine wpAnyH_ready (rs := [3]) (by kernel_rfl) (by simp) ?_
              refine AllReadyH.cons (o := { dst := some 66, op := _, type := _, pos := _, after := _, guard := _ }) rfl (fun K hK => ?_) AllReadyH.nil
              go_simp
              refine (HNP.out _).mono ?_
              rintro e v3 ⟨⟨t1, E1, i1, j1, rfl, hf1', Z1⟩, hk1⟩
              have hKeep := since_step hHeld hk1
              have M1 := Z1.l64 hnp64
              go_wp2_with fail
              refine hK.out _ _ (by (try dsimp only); exact hKeep) (fun hHeld => ?_)
              clear hK K hKeep
              try simp only [Act.put, List.setIfInBounds_toArray, List.set_cons_zero, List.set_cons_succ]
              refine wpAnyH_ready (rs := [4]) (by kernel_rfl) (by simp) ?_
              refine AllReadyH.cons (o := { dst := some 67, op := _, type := _, pos := _, after := _, guard := _ }) rfl (fun K hK => ?_) AllReadyH.nil
              go_simp
              refine (badd' (by omega) (by omega) (HH.out _ hHeld).2.1 Z1).mono ?_
              rintro e v4 ⟨⟨t2, E2, i2, j2, rfl, hf2', Z2⟩, hk2⟩
              have hKeep := since_step hHeld hk2
              have M2 := len_add (HH.out _ hHeld).2.1 Z1 Z2
              go_wp2_with fail
              refine hK.out _ _ (by (try dsimp only); exact hKeep) (fun hHeld => ?_)
              clear hK K hKeep
              try simp only [Act.put, List.setIfInBounds_toArray, List.set_cons_zero, List.set_cons_succ]
              refine wpAnyH_ready (rs := [7]) (by kernel_rfl) (by simp) ?_
              refine AllReadyH.cons (o := { dst := some 70, op := _, type := _, pos := _, after := _, guard := _ }) rfl (fun K hK => ?_) AllReadyH.nil
              go_simp
              refine (HX64.out _).mono ?_
              rintro e v5 ⟨⟨t3, E3, i3, j3, rfl, hf3', Z3⟩, hk3⟩
              have hKeep := since_step hHeld hk3
              have M3 := Z3.l64 hx64
              have Z2 := Z2.below hk3
              go_wp2_with fail
              refine hK.out _ _ (by (try dsimp only); exact hKeep) (fun hHeld => ?_)
              clear hK K hKeep
              try simp only [Act.put, List.setIfInBounds_toArray, List.set_cons_zero, List.set_cons_succ]
              refine wpAnyH_ready (rs := [8]) (by kernel_rfl) (by simp) ?_
              refine AllReadyH.cons (o := { dst := some 71, op := _, type := _, pos := _, after := _, guard := _ }) rfl (fun K hK => ?_) AllReadyH.nil
              go_simp
              refine (bcmp_any _ _ _ _ _ _ _ _ _ _ _ (by omega) (by omega) Z2 Z3).mono ?_
              rintro e v6 ⟨rfl, hk4⟩
              have hKeep := since_step hHeld hk4
              rw [HC0.out]
              go_wp2_with fail
              refine hK.out _ _ (by (try dsimp only); exact hKeep) (fun hHeld => ?_)
              clear hK K hKeep
              try simp only [Act.put, List.setIfInBounds_toArray, List.set_cons_zero, List.set_cons_succ]
              refine wpAnyH_take (i := 9) (oi := { dst := some 72, op := _, type := _, pos := _, after := _, guard := _ }) (v := ?_) rfl (by kernel_rfl) (by kernel_rfl) (by kernel_rfl) (fun _ _ _ h => h) (Or.inl ⟨by rfl, ?_⟩) hHeld ?_
              rotate_left
              · (intro w hSw; obtain ⟨⟨b1, b2, b3, b4, b5⟩, _, hp9, hg9⟩ := HH.out _ hSw; obtain ⟨p0, p1, p2, p3, p4, p5⟩ := hp9.got; obtain ⟨q0, q1, q2, q3, q4, q5⟩ := hg9.got; go_simp <;> with_reducible rfl)
              try simp only [Act.put, List.setIfInBounds_toArray, List.set_cons_zero, List.set_cons_succ]
              refine wpAnyH_take (i := 10) (oi := { dst := some 73, op := _, type := _, pos := _, after := _, guard := _ }) (v := ?_) rfl (by kernel_rfl) (by kernel_rfl) (by kernel_rfl) (fun _ _ _ h => h) (Or.inl ⟨by rfl, ?_⟩) hHeld ?_
              rotate_left
              · (intro w hSw; obtain ⟨⟨b1, b2, b3, b4, b5⟩, _, hp9, hg9⟩ := HH.out _ hSw; obtain ⟨p0, p1, p2, p3, p4, p5⟩ := hp9.got; obtain ⟨q0, q1, q2, q3, q4, q5⟩ := hg9.got; go_simp <;> with_reducible rfl)
              try simp only [Act.put, List.setIfInBounds_toArray, List.set_cons_zero, List.set_cons_succ]
              refine wpAnyH_take (i := 11) (oi := { dst := some 74, op := _, type := _, pos := _, after := _, guard := _ }) (v := ?_) rfl (by kernel_rfl) (by kernel_rfl) (by kernel_rfl) (fun _ _ _ h => h) (Or.inl ⟨by rfl, ?_⟩) hHeld ?_
              rotate_left
              · (intro w hSw; obtain ⟨⟨b1, b2, b3, b4, b5⟩, _, hp9, hg9⟩ := HH.out _ hSw; obtain ⟨p0, p1, p2, p3, p4, p5⟩ := hp9.got; obtain ⟨q0, q1, q2, q3, q4, q5⟩ := hg9.got; go_simp <;> with_reducible rfl)
              try simp only [Act.put, List.setIfInBounds_toArray, List.set_cons_zero, List.set_cons_succ]
              refine wpAnyH_take (i := 12) (oi := { dst := some 75, op := _, type := _, pos := _, after := _, guard := _ }) (v := ?_) rfl (by kernel_rfl) (by kernel_rfl) (by kernel_rfl) (fun _ _ _ h => h) (Or.inl ⟨by rfl, ?_⟩) hHeld ?_
              rotate_left
              · (intro w hSw; obtain ⟨⟨b1, b2, b3, b4, b5⟩, _, hp9, hg9⟩ := HH.out _ hSw; obtain ⟨p0, p1, p2, p3, p4, p5⟩ := hp9.got; obtain ⟨q0, q1, q2, q3, q4, q5⟩ := hg9.got; go_simp <;> with_reducible rfl)
              try simp only [Act.put, List.setIfInBounds_toArray, List.set_cons_zero, List.set_cons_succ]
              refine wpAnyH_take (i := 13) (oi := { dst := some 76, op := _, type := _, pos := _, after := _, guard := _ }) (v := ?_) rfl (by kernel_rfl) (by kernel_rfl) (by kernel_rfl) (fun _ _ _ h => h) (Or.inl ⟨by rfl, ?_⟩) hHeld ?_
              rotate_left
              · (intro w hSw; obtain ⟨⟨b1, b2, b3, b4, b5⟩, _, hp9, hg9⟩ := HH.out _ hSw; obtain ⟨p0, p1, p2, p3, p4, p5⟩ := hp9.got; obtain ⟨q0, q1, q2, q3, q4, q5⟩ := hg9.got; go_simp <;> with_reducible rfl)
              try simp only [Act.put, List.setIfInBounds_toArray, List.set_cons_zero, List.set_cons_succ]
              refine wpAnyH_take (i := 14) (oi := { dst := some 77, op := _, type := _, pos := _, after := _, guard := _ }) (v := ?_) rfl (by kernel_rfl) (by kernel_rfl) (by kernel_rfl) (fun _ _ _ h => h) (Or.inl ⟨by rfl, ?_⟩) hHeld ?_
              rotate_left
              · (intro w hSw; obtain ⟨⟨b1, b2, b3, b4, b5⟩, _, hp9, hg9⟩ := HH.out _ hSw; obtain ⟨p0, p1, p2, p3, p4, p5⟩ := hp9.got; obtain ⟨q0, q1, q2, q3, q4, q5⟩ := hg9.got; go_simp <;> with_reducible rfl)
              try simp only [Act.put, List.setIfInBounds_toArray, List.set_cons_zero, List.set_cons_succ]
              refine wpAnyH_take (i := 15) (oi := { dst := some 78, op := _, type := _, pos := _, after := _, guard := _ }) (v := undef) rfl (by kernel_rfl) (by kernel_rfl) (by kernel_rfl) (fun _ _ _ h => h) (Or.inr ⟨by rfl, rfl⟩) hHeld ?_
              try simp only [Act.put, List.setIfInBounds_toArray, List.set_cons_zero, List.set_cons_succ]
              refine wpAnyH_take (i := 16) (oi := { dst := some 79, op := _, type := _, pos := _, after := _, guard := _ }) (v := undef) rfl (by kernel_rfl) (by kernel_rfl) (by kernel_rfl) (fun _ _ _ h => h) (Or.inr ⟨by rfl, rfl⟩) hHeld ?_
              try simp only [Act.put, List.setIfInBounds_toArray, List.set_cons_zero, List.set_cons_succ]
              refine wpAnyH_take (i := 17) (oi := { dst := some 80, op := _, type := _, pos := _, after := _, guard := _ }) (v := undef) rfl (by kernel_rfl) (by kernel_rfl) (by kernel_rfl) (fun _ _ _ h => h) (Or.inr ⟨by rfl, rfl⟩) hHeld ?_
              try simp only [Act.put, List.setIfInBounds_toArray, List.set_cons_zero, List.set_cons_succ]
              refine wpAnyH_take (i := 18) (oi := { dst := some 81, op := _, type := _, pos := _, after := _, guard := _ }) (v := undef) rfl (by kernel_rfl) (by kernel_rfl) (by kernel_rfl) (fun _ _ _ h => h) (Or.inr ⟨by rfl, rfl⟩) hHeld ?_
              try simp only [Act.put, List.setIfInBounds_toArray, List.set_cons_zero, List.set_cons_succ]
              refine wpAnyH_take (i := 19) (oi := { dst := some 82, op := _, type := _, pos := _, after := _, guard := _ }) (v := undef) rfl (by kernel_rfl) (by kernel_rfl) (by kernel_rfl) (fun _ _ _ h => h) (Or.inr ⟨by rfl, rfl⟩) hHeld ?_
              try simp only [Act.put, List.setIfInBounds_toArray, List.set_cons_zero, List.set_cons_succ]
              refine wpAnyH_take (i := 20) (oi := { dst := some 83, op := _, type := _, pos := _, after := _, guard := _ }) (v := undef) rfl (by kernel_rfl) (by kernel_rfl) (by kernel_rfl) (fun _ _ _ h => h) (Or.inr ⟨by rfl, rfl⟩) hHeld ?_
              try simp only [Act.put, List.setIfInBounds_toArray, List.set_cons_zero, List.set_cons_succ]
              refine wpAnyH_take (i := 21) (oi := { dst := some 84, op := _, type := _, pos := _, after := _, guard := _ }) (v := undef) rfl (by kernel_rfl) (by kernel_rfl) (by kernel_rfl) (fun _ _ _ h => h) (Or.inr ⟨by rfl, rfl⟩) hHeld ?_
              try simp only [Act.put, List.setIfInBounds_toArray, List.set_cons_zero, List.set_cons_succ]
              refine wpAnyH_take (i := 22) (oi := { dst := some 85, op := _, type := _, pos := _, after := _, guard := _ }) (v := ?_) rfl (by kernel_rfl) (by kernel_rfl) (by kernel_rfl) (fun _ _ _ h => h) (Or.inl ⟨by rfl, ?_⟩) hHeld ?_
              rotate_left
              · (intro w hSw; obtain ⟨⟨b1, b2, b3, b4, b5⟩, _, hp9, hg9⟩ := HH.out _ hSw; obtain ⟨p0, p1, p2, p3, p4, p5⟩ := hp9.got; obtain ⟨q0, q1, q2, q3, q4, q5⟩ := hg9.got; go_simp <;> with_reducible rfl)
              try simp only [Act.put, List.setIfInBounds_toArray, List.set_cons_zero, List.set_cons_succ]
              refine wpAnyH_take (i := 23) (oi := { dst := some 86, op := _, type := _, pos := _, after := _, guard := _ }) (v := ?_) rfl (by kernel_rfl) (by kernel_rfl) (by kernel_rfl) (fun _ _ _ h => h) (Or.inl ⟨by rfl, ?_⟩) hHeld ?_
              rotate_left
              · (intro w hSw; obtain ⟨⟨b1, b2, b3, b4, b5⟩, _, hp9, hg9⟩ := HH.out _ hSw; obtain ⟨p0, p1, p2, p3, p4, p5⟩ := hp9.got; obtain ⟨q0, q1, q2, q3, q4, q5⟩ := hg9.got; go_simp <;> with_reducible rfl)
              try simp only [Act.put, List.setIfInBounds_toArray, List.set_cons_zero, List.set_cons_succ]
              refine wpAnyH_done (by kernel_rfl) ?_ _
              have hBf := hBW5.trans (hHeld.mono hsw5)
              have hX8 := HX8.out _ hHeld
              have hN8 := HN8.out _ hHeld
              have hC8 := HC8.out _ hHeld
              have hP8 := HP8.out _ hHeld
              have hcp := HPC.out _ hBf
              clear HH
              go_wp2_with fail
              refine (HB.out (y - p) _ A1 c1 hy2 hN8.1).mono ?_
              rw [HBK.out]
              rintro e y1 ⟨⟨A6, c6, rfl, hown6⟩, hk6⟩
              have hBf := since_step hBf hk6
              have hX8 := hX8.below hk6
              have hN8 := hN8.below hk6
              have hC8 := hC8.below hk6
              have hP8 := hP8.below hk6
              have hS6 := Sl.of_own hown6
              have hl6 := HLN.out y
              clear hown6 hk6 hcp
              dsimp only
              rw [hl6]
              go_wp2_with fail
              refine (HSM.out _ A6 A c6 c hS6 hC8.1).mono ?_
              rintro e y2 ⟨rfl, hk7⟩
              have hBf := since_step hBf hk7
              have hX8 := hX8.below hk7
              have hN8 := hN8.below hk7
              have hP8 := hP8.below hk7
              go_wp2_with fail
              go_roundw
              case rel => exact ⟨k + 1, y - p, A1, c1, s2, A2', m2, d2, by omega, by go_num, rfl, hN8, hy2, hX8, hP8, hBf⟩
              case measure => simp [intOf]; omega
            · have e1 : (y - p != 0) = true := by simpa using hz
              have e2 : decide (y - p < 0) = decide (pv.left < 0) := by rw [HXE.out]; congr 1; unfold Btw at hy2; apply propext; omega
              clear hz
              go_wp2_with fail
              refine wp_region_held_drew (S := (fun V => Below U5.heap.size U5 V)) (by kernel_rfl) (by exact (Below.refl _ _).drew) (fun hHeld => ?_)
              refine wpAnyH_take (i := 0) (oi := { dst := some 63, op := _, type := _, pos := _, after := _, guard := _ }) (v := ?_) rfl (by kernel_rfl) (by kernel_rfl) (by kernel_rfl) (fun _ _ _ h => h) (Or.inl ⟨by rfl, ?_⟩) hHeld ?_
              rotate_left
              · (intro w hSw; obtain ⟨⟨b1, b2, b3, b4, b5⟩, _, hp9, hg9⟩ := HH.out _ hSw; obtain ⟨p0, p1, p2, p3, p4, p5⟩ := hp9.got; obtain ⟨q0, q1, q2, q3, q4, q5⟩ := hg9.got; go_simp <;> with_reducible rfl)
              try simp only [Act.put, List.setIfInBounds_toArray, List.set_cons_zero, List.set_cons_succ]
              refine wpAnyH_take (i := 1) (oi := { dst := some 64, op := _, type := _, pos := _, after := _, guard := _ }) (v := ?_) rfl (by kernel_rfl) (by kernel_rfl) (by kernel_rfl) (fun _ _ _ h => h) (Or.inl ⟨by rfl, ?_⟩) hHeld ?_
              rotate_left
              · (intro w hSw; obtain ⟨⟨b1, b2, b3, b4, b5⟩, _, hp9, hg9⟩ := HH.out _ hSw; obtain ⟨p0, p1, p2, p3, p4, p5⟩ := hp9.got; obtain ⟨q0, q1, q2, q3, q4, q5⟩ := hg9.got; go_simp <;> with_reducible rfl)
              try simp only [Act.put, List.setIfInBounds_toArray, List.set_cons_zero, List.set_cons_succ]
              refine wpAnyH_take (i := 2) (oi := { dst := some 65, op := _, type := _, pos := _, after := _, guard := _ }) (v := ?_) rfl (by kernel_rfl) (by kernel_rfl) (by kernel_rfl) (fun _ _ _ h => h) (Or.inl ⟨by rfl, ?_⟩) hHeld ?_
              rotate_left
              · (intro w hSw; obtain ⟨⟨b1, b2, b3, b4, b5⟩, _, hp9, hg9⟩ := HH.out _ hSw; obtain ⟨p0, p1, p2, p3, p4, p5⟩ := hp9.got; obtain ⟨q0, q1, q2, q3, q4, q5⟩ := hg9.got; go_simp <;> with_reducible rfl)
              try simp only [Act.put, List.setIfInBounds_toArray, List.set_cons_zero, List.set_cons_succ]
              refine wpAnyH_take (i := 5) (oi := { dst := some 68, op := _, type := _, pos := _, after := _, guard := _ }) (v := ?_) rfl (by kernel_rfl) (by kernel_rfl) (by kernel_rfl) (fun _ _ _ h => h) (Or.inl ⟨by rfl, ?_⟩) hHeld ?_
              rotate_left
              · (intro w hSw; obtain ⟨⟨b1, b2, b3, b4, b5⟩, _, hp9, hg9⟩ := HH.out _ hSw; obtain ⟨p0, p1, p2, p3, p4, p5⟩ := hp9.got; obtain ⟨q0, q1, q2, q3, q4, q5⟩ := hg9.got; go_simp <;> with_reducible rfl)
              try simp only [Act.put, List.setIfInBounds_toArray, List.set_cons_zero, List.set_cons_succ]
              refine wpAnyH_take (i := 6) (oi := { dst := some 69, op := _, type := _, pos := _, after := _, guard := _ }) (v := ?_) rfl (by kernel_rfl) (by kernel_rfl) (by kernel_rfl) (fun _ _ _ h => h) (Or.inl ⟨by rfl, ?_⟩) hHeld ?_
              rotate_left
              · (intro w hSw; obtain ⟨⟨b1, b2, b3, b4, b5⟩, _, hp9, hg9⟩ := HH.out _ hSw; obtain ⟨p0, p1, p2, p3, p4, p5⟩ := hp9.got; obtain ⟨q0, q1, q2, q3, q4, q5⟩ := hg9.got; go_simp <;> with_reducible rfl)
              try simp only [Act.put, List.setIfInBounds_toArray, List.set_cons_zero, List.set_cons_succ]
              refine wpAnyH_ready (rs := [3]) (by kernel_rfl) (by simp) ?_
              refine AllReadyH.cons (o := { dst := some 66, op := _, type := _, pos := _, after := _, guard := _ }) rfl (fun K hK => ?_) AllReadyH.nil
              go_simp
              refine (HNP.out _).mono ?_
              rintro e v3 ⟨⟨t1, E1, i1, j1, rfl, hf1', Z1⟩, hk1⟩
              have hKeep := since_step hHeld hk1
              have M1 := Z1.l64 hnp64
              go_wp2_with fail
              refine hK.out _ _ (by (try dsimp only); exact hKeep) (fun hHeld => ?_)
              clear hK K hKeep
              try simp only [Act.put, List.setIfInBounds_toArray, List.set_cons_zero, List.set_cons_succ]
              refine wpAnyH_ready (rs := [4]) (by kernel_rfl) (by simp) ?_
              refine AllReadyH.cons (o := { dst := some 67, op := _, type := _, pos := _, after := _, guard := _ }) rfl (fun K hK => ?_) AllReadyH.nil
              go_simp
              refine (badd' (by omega) (by omega) (HH.out _ hHeld).2.1 Z1).mono ?_
              rintro e v4 ⟨⟨t2, E2, i2, j2, rfl, hf2', Z2⟩, hk2⟩
              have hKeep := since_step hHeld hk2
              have M2 := len_add (HH.out _ hHeld).2.1 Z1 Z2
              go_wp2_with fail
              refine hK.out _ _ (by (try dsimp only); exact hKeep) (fun hHeld => ?_)
              clear hK K hKeep
              try simp only [Act.put, List.setIfInBounds_toArray, List.set_cons_zero, List.set_cons_succ]
              refine wpAnyH_ready (rs := [7]) (by kernel_rfl) (by simp) ?_
              refine AllReadyH.cons (o := { dst := some 70, op := _, type := _, pos := _, after := _, guard := _ }) rfl (fun K hK => ?_) AllReadyH.nil
              go_simp
              refine (HX64.out _).mono ?_
              rintro e v5 ⟨⟨t3, E3, i3, j3, rfl, hf3', Z3⟩, hk3⟩
              have hKeep := since_step hHeld hk3
              have M3 := Z3.l64 hx64
              have Z2 := Z2.below hk3
              go_wp2_with fail
              refine hK.out _ _ (by (try dsimp only); exact hKeep) (fun hHeld => ?_)
              clear hK K hKeep
              try simp only [Act.put, List.setIfInBounds_toArray, List.set_cons_zero, List.set_cons_succ]
              refine wpAnyH_ready (rs := [8]) (by kernel_rfl) (by simp) ?_
              refine AllReadyH.cons (o := { dst := some 71, op := _, type := _, pos := _, after := _, guard := _ }) rfl (fun K hK => ?_) AllReadyH.nil
              go_simp
              refine (bcmp_any _ _ _ _ _ _ _ _ _ _ _ (by omega) (by omega) Z2 Z3).mono ?_
              rintro e v6 ⟨rfl, hk4⟩
              have hKeep := since_step hHeld hk4
              rw [HC0.out]
              go_wp2_with fail
              refine hK.out _ _ (by (try dsimp only); exact hKeep) (fun hHeld => ?_)
              clear hK K hKeep
              try simp only [Act.put, List.setIfInBounds_toArray, List.set_cons_zero, List.set_cons_succ]
              refine wpAnyH_take (i := 9) (oi := { dst := some 72, op := _, type := _, pos := _, after := _, guard := _ }) (v := ?_) rfl (by kernel_rfl) (by kernel_rfl) (by kernel_rfl) (fun _ _ _ h => h) (Or.inl ⟨by rfl, ?_⟩) hHeld ?_
              rotate_left
              · (intro w hSw; obtain ⟨⟨b1, b2, b3, b4, b5⟩, _, hp9, hg9⟩ := HH.out _ hSw; obtain ⟨p0, p1, p2, p3, p4, p5⟩ := hp9.got; obtain ⟨q0, q1, q2, q3, q4, q5⟩ := hg9.got; go_simp <;> with_reducible rfl)
              try simp only [Act.put, List.setIfInBounds_toArray, List.set_cons_zero, List.set_cons_succ]
              refine wpAnyH_take (i := 10) (oi := { dst := some 73, op := _, type := _, pos := _, after := _, guard := _ }) (v := ?_) rfl (by kernel_rfl) (by kernel_rfl) (by kernel_rfl) (fun _ _ _ h => h) (Or.inl ⟨by rfl, ?_⟩) hHeld ?_
              rotate_left
              · (intro w hSw; obtain ⟨⟨b1, b2, b3, b4, b5⟩, _, hp9, hg9⟩ := HH.out _ hSw; obtain ⟨p0, p1, p2, p3, p4, p5⟩ := hp9.got; obtain ⟨q0, q1, q2, q3, q4, q5⟩ := hg9.got; go_simp <;> with_reducible rfl)
              try simp only [Act.put, List.setIfInBounds_toArray, List.set_cons_zero, List.set_cons_succ]
              refine wpAnyH_take (i := 11) (oi := { dst := some 74, op := _, type := _, pos := _, after := _, guard := _ }) (v := ?_) rfl (by kernel_rfl) (by kernel_rfl) (by kernel_rfl) (fun _ _ _ h => h) (Or.inl ⟨by rfl, ?_⟩) hHeld ?_
              rotate_left
              · (intro w hSw; obtain ⟨⟨b1, b2, b3, b4, b5⟩, _, hp9, hg9⟩ := HH.out _ hSw; obtain ⟨p0, p1, p2, p3, p4, p5⟩ := hp9.got; obtain ⟨q0, q1, q2, q3, q4, q5⟩ := hg9.got; go_simp <;> with_reducible rfl)
              try simp only [Act.put, List.setIfInBounds_toArray, List.set_cons_zero, List.set_cons_succ]
              refine wpAnyH_take (i := 12) (oi := { dst := some 75, op := _, type := _, pos := _, after := _, guard := _ }) (v := ?_) rfl (by kernel_rfl) (by kernel_rfl) (by kernel_rfl) (fun _ _ _ h => h) (Or.inl ⟨by rfl, ?_⟩) hHeld ?_
              rotate_left
              · (intro w hSw; obtain ⟨⟨b1, b2, b3, b4, b5⟩, _, hp9, hg9⟩ := HH.out _ hSw; obtain ⟨p0, p1, p2, p3, p4, p5⟩ := hp9.got; obtain ⟨q0, q1, q2, q3, q4, q5⟩ := hg9.got; go_simp <;> with_reducible rfl)
              try simp only [Act.put, List.setIfInBounds_toArray, List.set_cons_zero, List.set_cons_succ]
              refine wpAnyH_take (i := 13) (oi := { dst := some 76, op := _, type := _, pos := _, after := _, guard := _ }) (v := ?_) rfl (by kernel_rfl) (by kernel_rfl) (by kernel_rfl) (fun _ _ _ h => h) (Or.inl ⟨by rfl, ?_⟩) hHeld ?_
              rotate_left
              · (intro w hSw; obtain ⟨⟨b1, b2, b3, b4, b5⟩, _, hp9, hg9⟩ := HH.out _ hSw; obtain ⟨p0, p1, p2, p3, p4, p5⟩ := hp9.got; obtain ⟨q0, q1, q2, q3, q4, q5⟩ := hg9.got; go_simp <;> with_reducible rfl)
              try simp only [Act.put, List.setIfInBounds_toArray, List.set_cons_zero, List.set_cons_succ]
              refine wpAnyH_take (i := 14) (oi := { dst := some 77, op := _, type := _, pos := _, after := _, guard := _ }) (v := ?_) rfl (by kernel_rfl) (by kernel_rfl) (by kernel_rfl) (fun _ _ _ h => h) (Or.inl ⟨by rfl, ?_⟩) hHeld ?_
              rotate_left
              · (intro w hSw; obtain ⟨⟨b1, b2, b3, b4, b5⟩, _, hp9, hg9⟩ := HH.out _ hSw; obtain ⟨p0, p1, p2, p3, p4, p5⟩ := hp9.got; obtain ⟨q0, q1, q2, q3, q4, q5⟩ := hg9.got; go_simp <;> with_reducible rfl)
              try simp only [Act.put, List.setIfInBounds_toArray, List.set_cons_zero, List.set_cons_succ]
              refine wpAnyH_take (i := 15) (oi := { dst := some 78, op := _, type := _, pos := _, after := _, guard := _ }) (v := ?_) rfl (by kernel_rfl) (by kernel_rfl) (by kernel_rfl) (fun _ _ _ h => h) (Or.inl ⟨by rfl, ?_⟩) hHeld ?_
              rotate_left
              · (intro w hSw; obtain ⟨⟨b1, b2, b3, b4, b5⟩, _, hp9, hg9⟩ := HH.out _ hSw; obtain ⟨p0, p1, p2, p3, p4, p5⟩ := hp9.got; obtain ⟨q0, q1, q2, q3, q4, q5⟩ := hg9.got; go_simp <;> with_reducible rfl)
              try simp only [Act.put, List.setIfInBounds_toArray, List.set_cons_zero, List.set_cons_succ]
              refine wpAnyH_take (i := 16) (oi := { dst := some 79, op := _, type := _, pos := _, after := _, guard := _ }) (v := ?_) rfl (by kernel_rfl) (by kernel_rfl) (by kernel_rfl) (fun _ _ _ h => h) (Or.inl ⟨by rfl, ?_⟩) hHeld ?_
              rotate_left
              · (intro w hSw; obtain ⟨⟨b1, b2, b3, b4, b5⟩, _, hp9, hg9⟩ := HH.out _ hSw; obtain ⟨p0, p1, p2, p3, p4, p5⟩ := hp9.got; obtain ⟨q0, q1, q2, q3, q4, q5⟩ := hg9.got; go_simp <;> with_reducible rfl)
              try simp only [Act.put, List.setIfInBounds_toArray, List.set_cons_zero, List.set_cons_succ]
              refine wpAnyH_take (i := 17) (oi := { dst := some 80, op := _, type := _, pos := _, after := _, guard := _ }) (v := ?_) rfl (by kernel_rfl) (by kernel_rfl) (by kernel_rfl) (fun _ _ _ h => h) (Or.inl ⟨by rfl, ?_⟩) hHeld ?_
              rotate_left
              · (intro w hSw; obtain ⟨⟨b1, b2, b3, b4, b5⟩, _, hp9, hg9⟩ := HH.out _ hSw; obtain ⟨p0, p1, p2, p3, p4, p5⟩ := hp9.got; obtain ⟨q0, q1, q2, q3, q4, q5⟩ := hg9.got; go_simp <;> with_reducible rfl)
              try simp only [Act.put, List.setIfInBounds_toArray, List.set_cons_zero, List.set_cons_succ]
              refine wpAnyH_take (i := 18) (oi := { dst := some 81, op := _, type := _, pos := _, after := _, guard := _ }) (v := ?_) rfl (by kernel_rfl) (by kernel_rfl) (by kernel_rfl) (fun _ _ _ h => h) (Or.inl ⟨by rfl, ?_⟩) hHeld ?_
              rotate_left
              · (intro w hSw; obtain ⟨⟨b1, b2, b3, b4, b5⟩, _, hp9, hg9⟩ := HH.out _ hSw; obtain ⟨p0, p1, p2, p3, p4, p5⟩ := hp9.got; obtain ⟨q0, q1, q2, q3, q4, q5⟩ := hg9.got; go_simp <;> with_reducible rfl)
              try simp only [Act.put, List.setIfInBounds_toArray, List.set_cons_zero, List.set_cons_succ]
              refine wpAnyH_take (i := 19) (oi := { dst := some 82, op := _, type := _, pos := _, after := _, guard := _ }) (v := ?_) rfl (by kernel_rfl) (by kernel_rfl) (by kernel_rfl) (fun _ _ _ h => h) (Or.inl ⟨by rfl, ?_⟩) hHeld ?_
              rotate_left
              · (intro w hSw; obtain ⟨⟨b1, b2, b3, b4, b5⟩, _, hp9, hg9⟩ := HH.out _ hSw; obtain ⟨p0, p1, p2, p3, p4, p5⟩ := hp9.got; obtain ⟨q0, q1, q2, q3, q4, q5⟩ := hg9.got; go_simp <;> with_reducible rfl)
              try simp only [Act.put, List.setIfInBounds_toArray, List.set_cons_zero, List.set_cons_succ]
              refine wpAnyH_take (i := 20) (oi := { dst := some 83, op := _, type := _, pos := _, after := _, guard := _ }) (v := ?_) rfl (by kernel_rfl) (by kernel_rfl) (by kernel_rfl) (fun _ _ _ h => h) (Or.inl ⟨by rfl, ?_⟩) hHeld ?_
              rotate_left
              · (intro w hSw; obtain ⟨⟨b1, b2, b3, b4, b5⟩, _, hp9, hg9⟩ := HH.out _ hSw; obtain ⟨p0, p1, p2, p3, p4, p5⟩ := hp9.got; obtain ⟨q0, q1, q2, q3, q4, q5⟩ := hg9.got; go_simp <;> with_reducible rfl)
              try simp only [Act.put, List.setIfInBounds_toArray, List.set_cons_zero, List.set_cons_succ]
              refine wpAnyH_take (i := 21) (oi := { dst := some 84, op := _, type := _, pos := _, after := _, guard := _ }) (v := ?_) rfl (by kernel_rfl) (by kernel_rfl) (by kernel_rfl) (fun _ _ _ h => h) (Or.inl ⟨by rfl, ?_⟩) hHeld ?_
              rotate_left
              · (intro w hSw; obtain ⟨⟨b1, b2, b3, b4, b5⟩, _, hp9, hg9⟩ := HH.out _ hSw; obtain ⟨p0, p1, p2, p3, p4, p5⟩ := hp9.got; obtain ⟨q0, q1, q2, q3, q4, q5⟩ := hg9.got; go_simp <;> with_reducible rfl)
              try simp only [Act.put, List.setIfInBounds_toArray, List.set_cons_zero, List.set_cons_succ]
              refine wpAnyH_take (i := 22) (oi := { dst := some 85, op := _, type := _, pos := _, after := _, guard := _ }) (v := ?_) rfl (by kernel_rfl) (by kernel_rfl) (by kernel_rfl) (fun _ _ _ h => h) (Or.inl ⟨by rfl, ?_⟩) hHeld ?_
              rotate_left
              · (intro w hSw; obtain ⟨⟨b1, b2, b3, b4, b5⟩, _, hp9, hg9⟩ := HH.out _ hSw; obtain ⟨p0, p1, p2, p3, p4, p5⟩ := hp9.got; obtain ⟨q0, q1, q2, q3, q4, q5⟩ := hg9.got; go_simp <;> with_reducible rfl)
              try simp only [Act.put, List.setIfInBounds_toArray, List.set_cons_zero, List.set_cons_succ]
              refine wpAnyH_take (i := 23) (oi := { dst := some 86, op := _, type := _, pos := _, after := _, guard := _ }) (v := ?_) rfl (by kernel_rfl) (by kernel_rfl) (by kernel_rfl) (fun _ _ _ h => h) (Or.inl ⟨by rfl, ?_⟩) hHeld ?_
              rotate_left
              · (intro w hSw; obtain ⟨⟨b1, b2, b3, b4, b5⟩, _, hp9, hg9⟩ := HH.out _ hSw; obtain ⟨p0, p1, p2, p3, p4, p5⟩ := hp9.got; obtain ⟨q0, q1, q2, q3, q4, q5⟩ := hg9.got; go_simp <;> with_reducible rfl)
              try simp only [Act.put, List.setIfInBounds_toArray, List.set_cons_zero, List.set_cons_succ]
              refine wpAnyH_done (by kernel_rfl) ?_ _
              have hBf := hBW5.trans (hHeld.mono hsw5)
              have hX8 := HX8.out _ hHeld
              have hN8 := HN8.out _ hHeld
              have hC8 := HC8.out _ hHeld
              have hP8 := HP8.out _ hHeld
              have hcp := HPC.out _ hBf
              clear HH
              go_wp2_with fail
              refine (HB.out (y - p) _ A1 c1 hy2 hN8.1).mono ?_
              rw [HBK.out]
              rintro e y1 ⟨⟨A6, c6, rfl, hown6⟩, hk6⟩
              have hBf := since_step hBf hk6
              have hX8 := hX8.below hk6
              have hN8 := hN8.below hk6
              have hC8 := hC8.below hk6
              have hP8 := hP8.below hk6
              have hS6 := Sl.of_own hown6
              have hl6 := HLN.out y
              clear hown6 hk6 hcp
              dsimp only
              rw [hl6]
              go_wp2_with fail
              refine (HSM.out _ A6 A c6 c hS6 hC8.1).mono ?_
              rintro e y2 ⟨rfl, hk7⟩
              have hBf := since_step hBf hk7
              have hX8 := hX8.below hk7
              have hN8 := hN8.below hk7
              have hP8 := hP8.below hk7
              go_wp2_with fail
              go_roundw
              case rel => exact ⟨k + 1, y - p, A1, c1, s2, A2', m2, d2, by omega, by go_num, rfl, hN8, hy2, hX8, hP8, hBf⟩
              case measure => simp [intOf]; omega
            
      · have hend : ¬ ((k : Int) < (ps.length : Int)) ∨ ((k : Int) < (ps.length : Int) ∧ ¬ ((k : Int) < 20)) := by omega
        clear hgo HST HFN HOK HX64
        obtain ⟨b1, b2, b3, b4, b5⟩ := X7.bb
        rcases hend with h1 | ⟨h1, h2⟩
        all_goals
          go_wp2_with fail
          refine (lives22_any _).mono ?_
          rintro e u2 ⟨rfl, hb2⟩
          have hB3 := since_step hBr hb2
          go_wp2_with fail
          go_ret
          exact ⟨rfl, hB3⟩
end Go.Proofs.Ytpnaihnmmnjacaa
