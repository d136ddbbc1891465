import Derived.IntWalk
import Derived.Test.YtmjndpkfhdoljaaGreatCm11
import Derived.Test.YtmjndpkfhdoljaaGreatCm19
import Derived.Test.YtmjndpkfhdoljaaGreatCm27
import Derived.Test.YtmjndpkfhdoljaaGreatCm31
import Derived.Test.YtmjndpkfhdoljaaGreatCm33
set_option maxHeartbeats 16000000
set_option maxRecDepth 100000
set_option linter.unusedVariables false
set_option linter.unusedSimpArgs false
namespace Go.Proofs.YtmjndpkfhdoljaaGreat
open Go.ChangeShapes Go.WideShapes Go.ChangeAt Go.RowKit
section
def lotE (asl : List Ax) (x : Lt) : Int := if hasM asl x.ast = false then 11 else fE (x.qty * (findM asl x.ast).price)
def lotV (b : Bool) (asl : List Ax) (x : Lt) : Int := if b = true then x.qty * (findM asl x.ast).price * (10000 - (findM asl x.ast).hc) / 10000 else x.qty * (findM asl x.ast).price
def lotsV (b : Bool) (asl : List Ax) (l : List Lt) : List Int := l.map (lotV b asl)
def OkM (asl : List Ax) : Prop := ∀ g ∈ asl, okM g
def covR (b : Bool) (asl : List Ax) (l : List Lt) (cash : Int) : Int × Int := if isLs l = false then (0, 3) else match l.find? (fun x => lotE asl x != 0) with
  | some x => (0, lotE asl x)
  | none => (fV (cash + (lotsV b asl l).sum), fE (cash + (lotsV b asl l).sum))
section
variable {b : Bool} {asl : List Ax} {l : List Lt} {cash : Int}
theorem covR_form (h : isLs l = false) : covR b asl l cash = (0, 3) := if_pos h
theorem covR_err {k : Nat} {n : Int} (hi : isLs l = true) (hk : k < l.length) (hno : ∀ j, (hj : j < l.length) → j < k → lotE asl l[j] = 0) (hn : lotE asl l[k] = n) (he : n ≠ 0) : covR b asl l cash = (0, n) := by
  have e : l.find? (fun x => lotE asl x != 0) = some l[k] := by
    rw [List.find?_eq_some_iff_getElem]
    refine ⟨by simpa [hn] using he, k, hk, rfl, fun j hj => ?_⟩
    simp [hno j (by omega) hj]
  unfold covR
  rw [if_neg (by simp [hi]), e]
  simp only [hn]
theorem covR_ok (hi : isLs l = true) (h : ∀ j, (hj : j < l.length) → lotE asl l[j] = 0) : covR b asl l cash = (fV (cash + (lotsV b asl l).sum), fE (cash + (lotsV b asl l).sum)) := by
  have e : l.find? (fun x => lotE asl x != 0) = none := by
    rw [List.find?_eq_none]
    intro c hc
    obtain ⟨k, hk, rfl⟩ := List.getElem_of_mem hc
    simp [h k hk]
  unfold covR
  rw [if_neg (by simp [hi]), e]
end
theorem lotE_none {asl : List Ax} {x : Lt} (h : hasM asl x.ast = false) : lotE asl x = 11 := if_pos h
theorem lotE_some {asl : List Ax} {x : Lt} (h : hasM asl x.ast = true) : lotE asl x = fE (x.qty * (findM asl x.ast).price) := if_neg (by simp [h])
theorem fE_in {z : Int} (h : fE z = 0) : In64 z := by
  unfold fE at h
  split at h
  · assumption
  · cases h
theorem findM_ok {asl : List Ax} (h : OkM asl) {id : Int} (hh : hasM asl id = true) : okM (findM asl id) := by
  rcases mfind_cases asl id with ⟨h1, _⟩ | ⟨k, hk, h1, _, h3, _⟩
  · rw [h1] at hh; cases hh
  · rw [h3]; exact h _ (List.getElem_mem hk)
theorem lot_count {asl : List Ax} {x : Lt} (ho : OkM asl) (hx : okL x = true) (hh : hasM asl x.ast = true) : countE ⟨(findM asl x.ast).id, (findM asl x.ast).price, (findM asl x.ast).hc⟩ x.qty = lotE asl x ∧ (lotE asl x = 0 → countV ⟨(findM asl x.ast).id, (findM asl x.ast).price, (findM asl x.ast).hc⟩ x.qty = lotV true asl x ∧ In64 (lotV true asl x)) := by
  have hok := findM_ok ho hh
  have hq : 0 ≤ x.qty := by unfold okL at hx; simp only [Bool.and_eq_true, decide_eq_true_eq] at hx; omega
  refine ⟨?_, fun h0 => ?_⟩
  · rw [lotE_some hh]; exact if_pos ⟨hok, hq⟩
  · rw [lotE_some hh] at h0
    have h6 := fE_in h0
    have e : countV ⟨(findM asl x.ast).id, (findM asl x.ast).price, (findM asl x.ast).hc⟩ x.qty = x.qty * (findM asl x.ast).price * (10000 - (findM asl x.ast).hc) / 10000 := if_pos ⟨hok, hq, h6⟩
    have e2 : lotV true asl x = x.qty * (findM asl x.ast).price * (10000 - (findM asl x.ast).hc) / 10000 := if_pos rfl
    refine ⟨e.trans e2.symm, ?_⟩
    rw [e2]
    have hz : 0 ≤ x.qty * (findM asl x.ast).price := Int.mul_nonneg hq hok.2.2.1.1
    have hr := count_rng (z := x.qty * (findM asl x.ast).price) hok hz
    simp only at hr
    unfold In64 at h6 ⊢
    omega
theorem lot_worth {asl : List Ax} {x : Lt} (ho : OkM asl) (hh : hasM asl x.ast = true) : worthE ⟨(findM asl x.ast).id, (findM asl x.ast).price, (findM asl x.ast).hc⟩ x.qty = lotE asl x ∧ (lotE asl x = 0 → worthV ⟨(findM asl x.ast).id, (findM asl x.ast).price, (findM asl x.ast).hc⟩ x.qty = lotV false asl x ∧ In64 (lotV false asl x)) := by
  have hok := findM_ok ho hh
  refine ⟨?_, fun h0 => ?_⟩
  · rw [lotE_some hh]; exact if_pos hok
  · rw [lotE_some hh] at h0
    have h6 := fE_in h0
    have e : worthV ⟨(findM asl x.ast).id, (findM asl x.ast).price, (findM asl x.ast).hc⟩ x.qty = fV (x.qty * (findM asl x.ast).price) := if_pos hok
    have e2 : lotV false asl x = x.qty * (findM asl x.ast).price := if_neg (by simp)
    rw [e2]
    refine ⟨e.trans ?_, h6⟩
    unfold fV
    exact if_pos h6
theorem lotsV_snoc (b : Bool) (asl : List Ax) (l : List Lt) (k : Nat) (h : k < l.length) : lotsV b asl (l.take (k + 1)) = lotsV b asl (l.take k) ++ [lotV b asl l[k]] := by
  unfold lotsV
  rw [take_snoc l k h, List.map_append]; rfl
def TabRelQ (n : Nat) (w : World) (out i : Value) (wr : World) : Prop :=
  ∃ (k : Nat) (R : List Ax) (A' : Option Addr) (c' : Nat), k ≤ n ∧ k ≤ 8 ∧ i = .int .i64 k ∧ out = .slice A' R.length c' ∧ wr.ownsRow w.heap.size 63 3 (.slice A' R.length c') R.length (rc Ax.cells R) ∧ Sorted R ∧ OkM R ∧ R.length ≤ k ∧ Below w.heap.size w wr
def TabResQ (w w' : World) (e : Ending) : Prop :=
  ∃ (R : List Ax) (A' : Option Addr) (c' : Nat), e = .returned (.slice A' R.length c') ∧ w'.ownsRow w.heap.size 63 3 (.slice A' R.length c') R.length (rc Ax.cells R) ∧ OkM R ∧ R.length ≤ 8
theorem rtableq_any_CoverM (A : Option Addr) (cap : Nat) (l : List Ax) (w : World) (hs : Sl w A (rc Ax.cells l)) :
    Calls Tryz.prog 14 #[.slice A l.length cap] w fun e w' => TabResQ w w' e ∧ Below w.heap.size w w' := by
  go_enter Tryz.func14, Tryz.ntmps14
  go_wp2_with fail
  go_loopw [3, 4] (fun out i wr => TabRelQ l.length w out i wr) (fun _ i _ => l.length - (intOf i).toNat)
  case atStart => exact ⟨0, [], none, 0, by omega, by omega, rfl, rfl, own_nil _ _ _, List.Pairwise.nil, (fun g h => by cases h), by simp, Below.refl _ _⟩
  case round =>
    obtain ⟨k, R, A', c', hk, hk8, rfl, rfl, hown, hsd, hok, hRk, hB⟩ := hrel
    by_cases hgo : k < l.length ∧ k < 8
    · obtain ⟨hlt, hlt8⟩ := hgo
      obtain ⟨b, o, rfl, hbw, hg⟩ := hs.ax hlt
      have hg1 : l[k].at wr b (o + k * 3) := Ax.at_keep (w := w) hg fun i => hB.cell (p := ⟨b, i, none⟩) hbw
      have hlk : (k : Int) < (l.length : Int) := by omega
      have hlk8 : (k : Int) < 8 := by omega
      have HPT := Lib.hid (rputm_any w.heap.size A' c' R l[k] wr (by omega) hown hsd)
      have HSD := Lib.hid hsd
      have hcase : (okM l[k] ∧ putMR R l[k] = (0, putR ahM R l[k])) ∨ ∃ n, n ≠ 0 ∧ putMR R l[k] = (n, []) := by
        unfold putMR
        by_cases ho : okM l[k]
        · rw [if_neg (by simp [ho])]
          split
          · exact .inr ⟨12, by decide, rfl⟩
          · exact .inl ⟨ho, rfl⟩
        · rw [if_pos ho]; exact .inr ⟨2, by decide, rfl⟩
      have HOK := Lib.hid hok
      clear hg hs hbw hsd hok
      generalize l[k] = v at *
      have HGN : Hid (okM v → OkM (putR ahM R v)) := Lib.hid fun ho g hg => by
        rcases mem_putR _ _ _ hg with rfl | hg
        · exact ho
        · exact HOK.out g hg
      rcases hcase with ⟨ho, hR⟩ | ⟨n, hn, hR⟩
      have HGN := Lib.hid (HGN.out ho)
      clear ho
      all_goals
        rw [hR] at HPT
        have HR := Lib.hid hR
        clear hR
        obtain ⟨g0, g1, g2⟩ := _root_.id hg1
        unfold Ax.val at HPT
      · go_wp2_with fail
        refine HPT.out.mono ?_
        rintro e w1 ⟨⟨A1, c1, rfl, hown1⟩, hb1⟩
        have hB2 := since_step hB hb1
        have hown2 := own_base hown1 hB.size
        clear hown hown1 hb1 g0 g1 g2
        go_wp2_with fail
        go_roundw
        case rel => exact ⟨k + 1, putR ahM R v, A1, c1, by omega, by omega, by go_num, rfl, hown2, pairwise_putR ordM v R HSD.out, HGN.out, Nat.le_trans (length_putR _ _) (by omega), hB2⟩
        case measure => simp [intOf]; omega
      · have hnb : (n == 0) = false := by simpa using hn
        go_wp2_with fail
        refine HPT.out.mono ?_
        rintro e w1 ⟨⟨A1, c1, rfl, hown1⟩, hb1⟩
        have hB2 := since_step hB hb1
        have hown2 := own_below hown hb1
        clear hown hown1 hb1 g0 g1 g2
        go_wp2_with fail
        go_roundw
        case rel => exact ⟨k + 1, R, A', c', by omega, by omega, by go_num, rfl, hown2, HSD.out, HOK.out, by omega, hB2⟩
        case measure => simp [intOf]; omega
    · have hend : ¬ ((k : Int) < (l.length : Int)) ∨ ((k : Int) < (l.length : Int) ∧ ¬ ((k : Int) < 8)) := by omega
      have HF := Lib.hid (show OkM R ∧ R.length ≤ 8 from ⟨hok, by omega⟩)
      clear hgo hsd hok
      rcases hend with h1 | ⟨h1, h2⟩
      all_goals
        go_wp2_with fail
        go_ret
        exact ⟨⟨R, A', c', rfl, hown, HF.out.1, HF.out.2⟩, hB⟩
end
end Go.Proofs.YtmjndpkfhdoljaaGreat
