import Derived.Deep.RegionLaw
import Derived.Lib.SliceRun
import Derived.Test.YtahdmomadbbhoaaGreatDk02
section
namespace Go.Proofs.YtahdmomadbbhoaaGreat
open Go.ChangeShapes Go.WideShapes Go.ChangeAt Go.RowKit
set_option linter.unusedVariables false
set_option linter.unusedSimpArgs false

structure Po where
  (ac : Int) (cl : Int) (lg : Option Addr) (lgL lgC : Nat)
deriving DecidableEq
def Po.cells (g : Po) : List Value := [.int .i64 g.ac, .int .i64 g.cl, .slice g.lg g.lgL g.lgC]
def Po.val (g : Po) : Value := .agg #[.int .i64 g.ac, .int .i64 g.cl, .slice g.lg g.lgL g.lgC]
def Po.zero : Po := ⟨0, 0, none, 0, 0⟩
theorem Po.len (g : Po) : g.cells.length = 3 := rfl
theorem Po.one (g : Po) : ∀ u ∈ g.cells, u.oneCell' = true := by
  intro u hu
  simp only [Po.cells, List.mem_cons, List.not_mem_nil, or_false] at hu
  rcases hu with h | h | h <;> subst h <;> rfl
def Po.at (g : Po) (w : World) (b o : Nat) : Prop :=
  w.cell? ⟨b, o, none⟩ = some (.int .i64 g.ac) ∧ w.cell? ⟨b, o + 1, none⟩ = some (.int .i64 g.cl) ∧ w.cell? ⟨b, o + 2, none⟩ = some (.slice g.lg g.lgL g.lgC)
theorem Po.at_of {w : World} {b o : Nat} {g : Po} (h : ∀ j u, g.cells[j]? = some u → w.cell? ⟨b, o + j, none⟩ = some u) : g.at w b o :=
  ⟨h 0 _ rfl, h 1 _ rfl, h 2 _ rfl⟩
theorem Po.at_keep {w w' : World} {b o : Nat} {g : Po} (h : g.at w b o) (k : ∀ i, w'.cell? ⟨b, i, none⟩ = w.cell? ⟨b, i, none⟩) : g.at w' b o := by
  unfold Po.at at *
  simp only [k]
  exact h
theorem Sl.po {w : World} {A : Option Addr} {l : List Po} (h : Sl w A (rc Po.cells l)) {k : Nat} (hk : k < l.length) : ∃ b o, A = some ⟨b, o, none⟩ ∧ b < w.heap.size ∧ l[k].at w b (o + k * 3) := by
  obtain ⟨b, o, hA, hb, hc⟩ := Sl.elem (m := 3) Po.len (by decide) h hk
  exact ⟨b, o, hA, hb, Po.at_of hc⟩
theorem EPo : Elem Tryz.prog 22 97 3 40 := Elem.mk' (z := .agg #[.int .i64 0, .int .i64 0, .slice none 0 0]) (by kernel_rfl) (by kernel_rfl) (by decide) (by decide)
def Po.Tells (F : Nat) (caps : Array Value) (p : Po → Bool) (B : Nat) (w : World) : Prop :=
  ∀ (g : Po) (W : World), Below B w W → Calls Tryz.prog F (#[g.val] ++ caps) W fun e w' => e = .returned (.bool (p g)) ∧ Below W.heap.size W w'
theorem Po.Tells.below {F : Nat} {caps : Array Value} {p : Po → Bool} {B : Nat} {w w1 : World} (h : Po.Tells F caps p B w) (hb : Below B w w1) {C : Nat} (hC : B ≤ C) : Po.Tells F caps p C w1 :=
  fun g W hW => h g W (hb.trans (hW.mono hC))
set_option maxHeartbeats 1000000 in
set_option maxRecDepth 100000 in
theorem index_po (A : Option Addr) (cap : Nat) (l : List Po) (F : Nat) (caps : Array Value) (p : Po → Bool) (w : World) (hl : l.length ≤ 1000000) (hs : Sl w A (rc Po.cells l)) (hF : Ent Tryz.prog F) (hp : Po.Tells F caps p w.heap.size w) :
    Calls Tryz.prog 84 #[.slice A l.length cap, .func (.func F) #[] caps] w fun e w' => e = .returned (.int .i64 (atL p l)) ∧ Below w.heap.size w w' := by
  go_enter Tryz.func84, Tryz.ntmps84
  go_wp2
  go_loopw [8] (fun i wr => ∃ k : Nat, k ≤ l.length ∧ i = .int .i64 k ∧ (∀ j, (hj : j < l.length) → j < k → p l[j] = false) ∧ Below w.heap.size w wr) (fun i _ => l.length - (intOf i).toNat)
  case atStart => exact ⟨0, by omega, rfl, fun j hj h => absurd h (by omega), Below.refl _ _⟩
  case round =>
    obtain ⟨k, hk, rfl, hno, hB⟩ := hrel
    by_cases hlt2 : k < l.length
    · obtain ⟨b, o, rfl, hbw, hg⟩ := hs.po hlt2
      have hg1 : l[k].at wr b (o + k * 3) := Po.at_keep (w := w) hg fun i => hB.cell (p := ⟨b, i, none⟩) hbw
      obtain ⟨g0, g1, g2⟩ := hg1
      have hbr : b < wr.heap.size := Nat.lt_of_lt_of_le hbw hB.size
      have step := hp l[k] wr hB
      cases hq : p l[k] with
      | true =>
        have HQ := Lib.hid hq
        go_wp2_with fail
        rw [hF, Oper.upon_enter]
        refine step.mono ?_
        rintro e w1 ⟨rfl, hb1⟩
        have hB1 := since_step hB hb1
        clear hb1
        rw [HQ.out]
        go_wp2
        go_ret
        exact ⟨retI (atL_some hlt2 (fun j hj => hno j (by omega) hj) HQ.out).symm, hB1⟩
      | false =>
        have HQ := Lib.hid hq
        go_wp2_with fail
        rw [hF, Oper.upon_enter]
        refine step.mono ?_
        rintro e w1 ⟨rfl, hb1⟩
        have hB1 := since_step hB hb1
        clear hb1
        rw [HQ.out]
        go_wp2
        go_roundw
        case rel =>
          refine ⟨k + 1, by omega, by go_num, fun j hj hjk => ?_, hB1⟩
          rcases Nat.lt_or_ge j k with h | h
          · exact hno j hj h
          · obtain rfl : j = k := by omega
            exact HQ.out
        case measure => simp [intOf]; omega
    · go_wp2
      go_ret
      exact ⟨retI (atL_none fun j hj => hno j hj (by omega)).symm, hB⟩
set_option maxHeartbeats 1000000 in
set_option maxRecDepth 100000 in
theorem clone_po (A : Option Addr) (cap : Nat) (l : List Po) (w : World) (hl : l.length ≤ 1000000) (hs : Sl w A (rc Po.cells l)) :
    Calls Tryz.prog 113 #[.slice A l.length cap] w fun e w' => (∃ A' c', e = .returned (.slice A' l.length c') ∧ w'.ownsRow w.heap.size 97 3 (.slice A' l.length c') l.length (rc Po.cells l)) ∧ Below w.heap.size w w' := by
  cases A with
  | none =>
    have hn : l = [] := by
      cases l with
      | nil => rfl
      | cons g m => obtain ⟨b, o, e, _⟩ := hs.po (k := 0) (by simp); cases e
    subst hn
    have hnil := fun w : World => Go.Lib.run_eql_slice_nil (P := Tryz.prog) w 22 97 none 0 cap 0 0 EPo.und
    go_enter Tryz.func113, Tryz.ntmps113
    go_wp2_with fail
    go_ret
    exact ⟨⟨none, 0, rfl, own_nil _ _ _⟩, Below.refl _ _⟩
  | some ad =>
    have hnil := fun w : World => Go.Lib.run_eql_slice_nil (P := Tryz.prog) w 22 97 (some ad) l.length cap 0 0 EPo.und
    go_enter Tryz.func113, Tryz.ntmps113
    go_wp2_with (first
      | (at_builtin; refine wpList_app rfl (.tmp 5) (.tmp 6) rfl EPo rfl rfl (World.ownsRow_made (w := w) #[] 0 (Nat.le_refl _) (Nat.zero_le _) rfl) (rc_length Po.len l) (hs.alloc _) (rc_one Po.one l) (by unfold maxLen; omega) (by omega) (by simp) ?_; intro A2 c2 w2 hown2 hg2 hb2; simp only [Nat.zero_add, List.nil_append] at hown2)
      | fail)
    refine bodyPost_ret (results_tmp rfl _ _ _) rfl ⟨⟨A2, c2, by simp, by simpa using hown2⟩, ?_⟩
    exact Below.trans ((Below.refl _ _).alloc (Nat.le_refl _) _) hb2
theorem set_rc_po (g : Po) : ∀ (l : List Po) (k : Nat), k < l.length → ((((rc Po.cells l).set (k * 3) (.int .i64 g.ac)).set (k * 3 + 1) (.int .i64 g.cl)).set (k * 3 + 2) (.slice g.lg g.lgL g.lgC)) = rc Po.cells (l.set k g) := by
  intro l
  induction l with
  | nil => intro k h; simp at h
  | cons a l ih =>
    intro k h
    cases k with
    | zero => simp [rc, Po.cells]
    | succ k =>
      have := ih k (by simpa using h)
      have e0 : (k + 1) * 3 = k * 3 + 3 := by omega
      rw [e0]
      simp only [rc, List.map_cons, List.flatten_cons, List.set_cons_succ, Po.cells, List.cons_append, List.nil_append] at this ⊢
      rw [← this]
theorem own_set_po {w : World} {B b k n c : Nat} {l : List Po} (h : w.ownsRow B 97 3 (.slice (some ⟨b, 0, none⟩) n c) n (rc Po.cells l)) (hk : k < l.length) (g : Po) :
    ((((w.setCell ⟨b, k * 3, none⟩ (.int .i64 g.ac)).setCell ⟨b, k * 3 + 1, none⟩ (.int .i64 g.cl)).setCell ⟨b, k * 3 + 2, none⟩ (.slice g.lg g.lgL g.lgC))).ownsRow B 97 3 (.slice (some ⟨b, 0, none⟩) n c) n (rc Po.cells (l.set k g)) := by
  rw [← set_rc_po g l k hk]
  have hl := rc_length Po.len l
  have hkk : k * 3 + 3 ≤ l.length * 3 := by have := Nat.mul_le_mul_right 3 (show k + 1 ≤ l.length from hk); omega
  refine (own_set1 (own_set1 (own_set1 h ?_ _) ?_ _) ?_ _)
  all_goals first | omega | (simp only [List.length_set]; omega)
set_option maxHeartbeats 1000000 in
set_option maxRecDepth 100000 in
theorem set_po (A : Option Addr) (cap : Nat) (l : List Po) (k : Nat) (g : Po) (w : World) (hl : l.length ≤ 1000000) (hk : k < l.length) (hs : Sl w A (rc Po.cells l)) :
    Calls Tryz.prog 118 #[.slice A l.length cap, .int .i64 k, g.val] w fun e w' => (∃ A' c', e = .returned (.slice A' l.length c') ∧ w'.ownsRow w.heap.size 97 3 (.slice A' l.length c') l.length (rc Po.cells (l.set k g))) ∧ Below w.heap.size w w' := by
  unfold Po.val
  go_enter Tryz.func118, Tryz.ntmps118
  go_wp2_with fail
  refine (clone_po A cap l _ hl (hs.alloc _)).mono ?_
  rintro e w1 ⟨⟨A1, c1, rfl, hown⟩, hb1⟩
  have Bv := (Bk.new w g.cells.toArray 97).below hb1
  have hB1 := since_step (since_alloc (Below.refl _ _) _) hb1
  obtain ⟨gb, rfl, h1, h2, h3⟩ := own_at hown (by omega)
  simp only [World.size_alloc] at h1 hown
  clear hb1
  obtain ⟨lb, cb⟩ := id Bv
  have q0 := cb 0
  have q1 := cb 1
  have q2 := cb 2
  simp [Po.cells] at q0 q1 q2
  clear cb
  obtain ⟨b, o, e, hbw, hgat⟩ := (Sl.of_own hown).po hk
  injection e with e
  injection e with e1 e2 e3
  subst e1; subst e2
  simp only [Nat.zero_add] at hgat
  obtain ⟨g0, g1, g2⟩ := id hgat
  go_wp2_with fail
  refine bodyPost_ret (results_tmp rfl _ _ _) rfl ⟨⟨_, _, rfl, ?_⟩, ?_⟩
  · have hh := own_set_po hown hk g
    rcases hh with ⟨hh1, hh2⟩
    refine ⟨hh1, ?_⟩
    rcases hh2 with ⟨hh2, _⟩ | ⟨g', cap', cur', e1, e2, e3⟩
    · cases hh2
    · exact .inr ⟨g', cap', cur', e1, by omega, e3⟩
  repeat' (first | with_reducible exact hB1 | with_reducible refine Below.setCell ?_ ?_ _)
  all_goals first | (simp; done) | (simp; omega)
theorem run_sizeOf_po (w : World) : (Go.sizeOf 97).run Tryz.prog w = .ok 3 w := by
  obtain ⟨i, z, hi, hz, hsize, hby, hzs⟩ := EPo.info
  simp [Go.sizeOf, typeInfo, hi, hsize]
theorem info_size_po : (Tryz.prog.info? 97).map (·.size) = some 3 := by kernel_rfl
theorem overlaps_po (w : World) (vb g o vc lb cb : Nat) (cs cur : Array Value) (hv : w.heap[vb]? = some (.cells cs 97 (0, 0))) (hg : w.heap[g]? = some (.cells cur 97 (0, 0))) (hne : vb ≠ g) (h0 : cur.size ≠ 0) :
    (callFunc 124 #[.slice (some ⟨vb, 0, none⟩) 1 vc, .slice (some ⟨g, o, none⟩) lb cb]).run Tryz.prog w = .ok (.value (.bool false)) w := by
  rw [run_callFunc_extern Tryz.func124 (by kernel_rfl) (by kernel_rfl) (by kernel_rfl) (e := Extern.SlicesOverlaps.overlaps #[22, 22] #[4]) (by kernel_rfl),
    Lib.run_overlaps_apart w 22 4 97 EPo.und 3 run_sizeOf_po ⟨vb, 0, none⟩ ⟨g, o, none⟩ 1 vc lb cb hne 97 97 cs.size cur.size (by simp [World.shape?, hv]) (by simp [World.shape?, hg]) h0 (by simp [World.frozen?, hv]) (by simp [World.frozen?, hv])]
  rfl
set_option maxHeartbeats 4000000 in
set_option maxRecDepth 100000 in
theorem insert_room_po (B g i n c vb vc : Nat) (l : List Po) (x : Po) (w : World) (hn : l.length = n) (hi : i < n) (hroom : n + 1 ≤ c) (hown : w.ownsRow B 97 3 (.slice (some ⟨g, 0, none⟩) n c) n (rc Po.cells l))
    (hv : w.heap[vb]? = some (.cells x.cells.toArray 97 (0, 0))) (hne : vb ≠ g) :
    Calls Tryz.prog 117 #[.slice (some ⟨g, 0, none⟩) n c, .int .i64 i, .slice (some ⟨vb, 0, none⟩) 1 vc] w fun e w' =>
      (∃ A' c', e = .returned (.slice A' (n + 1) c') ∧ w'.ownsRow B 97 3 (.slice A' (n + 1) c') (n + 1) (rc Po.cells (l.take i ++ x :: l.drop i))) ∧ Below B w w' := by
  rcases hown.2 with ⟨hh, _⟩ | ⟨g', cap, cur, hh, hB, hg, hnc, hcm, hcs, ht⟩
  · cases hh
  injection hh with e1 e2 e3
  injection e1 with e1
  injection e1 with e1
  subst e1; subst e3
  unfold maxLen at hcm
  have hov := fun o lb cb => overlaps_po w vb g o vc lb cb _ _ hv hg hne (by omega)
  have hw1 : IntKind.i64.wrap ((i : Int) + 1) = (i : Int) + 1 := by rw [IntKind.wrap_i64]; omega
  have hb1 : (0 : Int) ≤ (i : Int) + 1 := by omega
  have htn : ((i : Int) + 1).toNat = i + 1 := by omega
  have hb2 : ¬ (c = i + 1) := by omega
  have hb3 : (i : Int) ≤ (n : Int) + 1 := by omega
  have hb4 : ¬ (c = i) := by omega
  have hz2 : ¬ ((i : Int) = (n : Int)) := by omega
  have hin : i ≤ n := by omega
  have hml : (i + 1) * 3 ≤ n * 3 := Nat.mul_le_mul_right _ (by omega)
  have hmc : (n + 1) * 3 ≤ c * 3 := Nat.mul_le_mul_right _ hroom
  have hlen : (rc Po.cells (l.drop i)).length = (n - i) * 3 := by rw [rc_length Po.len, List.length_drop, hn]
  have HM : Hid (Nat.min (n + 1 - i) (n - i) = n - i ∧ Nat.min 1 (n + 1 - i) = 1) := Lib.hid ⟨Nat.min_eq_right (by omega), Nat.min_eq_left (by omega)⟩
  have HN := Lib.hid (show (rc Po.cells (l.drop i)).length = Nat.min (n + 1 - i) (n - i) * 3 by rw [hlen, HM.out.1])
  have HS : Hid (∀ j v, (rc Po.cells (l.drop i))[j]? = some v → w.drew.cell? ((⟨g, i * 3, none⟩ : Addr).add j) = some v) := Lib.hid (by
    intro j v hj
    have hlt : j < (n - i) * 3 := by rw [← hlen]; exact (List.getElem?_eq_some_iff.1 hj).1
    rw [addr_add]
    show w.cell? _ = _
    rw [cell_of_row w g _ cur 97 (0, 0) hg, ← Array.getElem?_toList]
    rw [← rc_drop Po.len, List.getElem?_drop, ← ht, List.getElem?_take] at hj
    split at hj
    · exact hj
    · cases hj)
  have HF := Lib.hid (show (i + 1) * 3 + (rc Po.cells (l.drop i)).length ≤ cur.toList.length by rw [hlen, Array.length_toList, hcs, Nat.sub_mul]; omega)
  have HG := Lib.hid (show w.drew.heap[g]? = some (.cells cur.toList.toArray 97 (0, 0)) by show w.heap[g]? = _; simpa using hg)
  have HC : Hid (cur.toList.length = c * 3 ∧ n * 3 + x.cells.length ≤ c * 3 ∧ (i + 1) * 3 = i * 3 + x.cells.length ∧ (i + 1) * 3 ≤ n * 3) := Lib.hid ⟨by simpa using hcs, by rw [Po.len]; omega, by rw [Po.len]; omega, hml⟩
  have HD : Hid (Below B w w.drew) := Lib.hid ⟨rfl, rfl, rfl, Nat.le_refl _, fun _ _ => rfl⟩
  clear hlen hml hmc
  go_enter Tryz.func117, Tryz.ntmps117
  go_wp2_with (simp only [hov])
  go_region_law (refine step_copyN rfl (.tmp 73) (.tmp 76) 22 22 rfl 97 3 EPo.und info_size_po g ((i + 1) * 3) (n - i) (c - (i + 1)) ⟨g, i * 3, none⟩ (n + 1 - i) (c - i) (by simp [Act.eval, Act.put]; done) (by simp [Act.eval, Act.put]; done) cur.toList 97 HG.out (rc Po.cells (l.drop i)) HN.out HS.out HF.out (rc_one Po.one _) B w HD.out hB ?_; intro w4 hg4 hk4 hb4; rw [HM.out.1])
  have HV : Hid (∀ j v, x.cells[j]? = some v → w4.cell? ((⟨vb, 0, none⟩ : Addr).add j) = some v) := Lib.hid (by
    intro j v hj
    rw [addr_add, Nat.zero_add, cell_of_row w4 vb j x.cells.toArray 97 (0, 0) ((hk4.out vb hne).trans hv)]
    simpa using hj)
  have HF2 := Lib.hid (show i * 3 + x.cells.length ≤ (splice cur.toList ((i + 1) * 3) (rc Po.cells (l.drop i))).length by
    rw [length_splice _ _ _ HF.out, Po.len, Array.length_toList, hcs]
    have : (i + 1) * 3 ≤ c * 3 := Nat.mul_le_mul_right _ (by omega)
    omega)
  have hrun := run_copyN (P := Tryz.prog) w4 22 22 3 97 3 g (i * 3) (n + 1 - i) (c - i) ⟨vb, 0, none⟩ 1 vc _ 97 x.cells EPo.und info_size_po hg4.out (by rw [HM.out.2]; rfl) HV.out (by simpa using HF2.out) (Po.one x)
  have hg5 := setRow_heap w4 g _ ((List.take (i * 3) (splice cur.toList ((i + 1) * 3) (rc Po.cells (List.drop i l))).toArray.toList ++ x.cells ++ List.drop (i * 3 + x.cells.length) (splice cur.toList ((i + 1) * 3) (rc Po.cells (List.drop i l))).toArray.toList)).toArray 97 (0, 0) hg4.out
  have hb5 := below_setRow hb4 hB ((List.take (i * 3) (splice cur.toList ((i + 1) * 3) (rc Po.cells (List.drop i l))).toArray.toList ++ x.cells ++ List.drop (i * 3 + x.cells.length) (splice cur.toList ((i + 1) * 3) (rc Po.cells (List.drop i l))).toArray.toList)).toArray
  rw [HM.out.2] at hrun
  generalize w4.setRow g _ = w5 at hrun hg5 hb5
  have HG5 := Lib.hid hg5
  have HR := Lib.hid hrun
  clear hg5 hrun
  go_wp2_with fail
  rw [HR.out, Result.andThen_ok, Oper.upon_value]
  go_wp2
  go_ret
  refine ⟨⟨some ⟨g, 0, none⟩, c, rfl, ?_, .inr ⟨g, c, _, rfl, hB, HG5.out, hroom, hcm, ?_, ?_⟩⟩, hb5⟩
  · rw [rc_length Po.len]
    simp
    omega
  · have := (shift_row cur.toList x.cells (rc Po.cells (l.drop i)) (rc Po.cells l) (i * 3) ((i + 1) * 3) (n * 3) (c * 3) HC.out.1 HC.out.2.1 HC.out.2.2.1 HC.out.2.2.2 ht (rc_drop Po.len l i).symm).1
    rw [List.size_toArray]
    exact this
  · have := (shift_row cur.toList x.cells (rc Po.cells (l.drop i)) (rc Po.cells l) (i * 3) ((i + 1) * 3) (n * 3) (c * 3) HC.out.1 HC.out.2.1 HC.out.2.2.1 HC.out.2.2.2 ht (rc_drop Po.len l i).symm).2
    rw [rc_append, rc_cons, ← rc_take Po.len, ← this, Nat.add_mul]
    rfl
set_option maxHeartbeats 4000000 in
set_option maxRecDepth 100000 in
theorem insert_grow_po (B g i n c vb vc : Nat) (l : List Po) (x : Po) (w : World) (hn : l.length = n) (hn6 : n ≤ 1000000) (hi : i < n) (hroom : c < n + 1) (hown : w.ownsRow B 97 3 (.slice (some ⟨g, 0, none⟩) n c) n (rc Po.cells l))
    (hv : w.heap[vb]? = some (.cells x.cells.toArray 97 (0, 0))) (hBw : B ≤ w.heap.size) :
    Calls Tryz.prog 117 #[.slice (some ⟨g, 0, none⟩) n c, .int .i64 i, .slice (some ⟨vb, 0, none⟩) 1 vc] w fun e w' =>
      (∃ A' c', e = .returned (.slice A' (n + 1) c') ∧ w'.ownsRow B 97 3 (.slice A' (n + 1) c') (n + 1) (rc Po.cells (l.take i ++ x :: l.drop i))) ∧ Below B w w' := by
  rcases hown.2 with ⟨hh, _⟩ | ⟨g', cap, cur, hh, hB, hg, hnc, hcm, hcs, ht⟩
  · cases hh
  injection hh with e1 e2 e3
  injection e1 with e1
  injection e1 with e1
  subst e1; subst e3
  obtain ⟨inf, z, hinf, hz, hsize, hby, hzs⟩ := EPo.info
  have hgl : g < w.heap.size := by
    rcases Nat.lt_or_ge g w.heap.size with hlt | hge
    · exact hlt
    · rw [Array.getElem?_eq_none hge] at hg; cases hg
  have hvl : vb < w.heap.size := by
    rcases Nat.lt_or_ge vb w.heap.size with hlt | hge
    · exact hlt
    · rw [Array.getElem?_eq_none hge] at hv; cases hv
  have hlT : (rc Po.cells (l.take i)).length = i * 3 := by rw [rc_length Po.len, List.length_take, Nat.min_eq_left (by omega)]
  have hlD : (rc Po.cells (l.drop i)).length = (n - i) * 3 := by rw [rc_length Po.len, List.length_drop, hn]
  have hold : (Builtin.firstCells inf.size i (.slice (some ⟨g, 0, none⟩) i c)).run Tryz.prog w.drew = .ok (rc Po.cells (l.take i)).toArray w.drew := by
    rw [hsize]
    refine run_firstCells_some w.drew 3 i ⟨g, 0, none⟩ i c (rc Po.cells (l.take i)) hlT fun j v hj => ?_
    rw [addr_add, Nat.zero_add]
    show w.cell? _ = _
    rw [cell_of_row w g _ cur 97 (0, 0) hg, ← Array.getElem?_toList]
    rw [← rc_take Po.len, ← ht, List.take_take, List.getElem?_take] at hj
    split at hj
    · exact hj
    · cases hj
  have hik : i + (n + 1 - i) = n + 1 := by omega
  have hkk : (n : Int) + 1 - (i : Int) = ((n + 1 - i : Nat) : Int) := by omega
  obtain ⟨G, hG⟩ : ∃ G, G = grownCap w (n + 1) c 97 := ⟨_, rfl⟩
  obtain ⟨ROW, hROW⟩ : ∃ ROW : Array Value, ROW = (rc Po.cells (l.take i)).toArray ++ Builtin.zeroCells z.cells (n + 1 - i) ++ Builtin.zeroCells z.cells (G - (n + 1)) := ⟨_, rfl⟩
  have hrz : (Builtin.append_ #[22, 3] 22 #[.slice (some ⟨g, 0, none⟩) i c, .int .i64 ((n : Int) + 1 - (i : Int))]).run Tryz.prog w =
      .ok (.slice (some ⟨w.heap.size, 0, none⟩) (n + 1) G) (w.drew.alloc (.cells ROW 97)) := by
    have h := Lib.run_append_grow_zeros w 22 3 22 97 inf z .i64 .i64 EPo.und (by kernel_rfl) hinf hz (some ⟨g, 0, none⟩) i c (rc Po.cells (l.take i)) hold (n + 1 - i) (by omega) (by omega) (by omega) (by omega) (by rw [hby]; omega) (by rw [hby, hik]; exact growslice_fits hroom (by omega))
    rw [hik, ← hG] at h
    rw [hkk, hROW]
    exact h
  have hGn : n + 1 ≤ G := by rw [hG]; exact grownCap_ge w _ _ _
  have hGm : G ≤ maxLen := by rw [hG]; exact grownCap_le_maxLen w (n + 1) c 97 (by unfold maxLen; omega)
  have hRs : ROW.size = G * 3 := by
    rw [hROW, Array.size_append, Array.size_append, zeroCells_size _ _ (by omega), zeroCells_size _ _ (by omega), List.size_toArray, hlT, hzs]
    have e1 : G = i + (n + 1 - i) + (G - (n + 1)) := by omega
    have : G * 3 = (i + (n + 1 - i) + (G - (n + 1))) * 3 := by rw [← e1]
    rw [this, Nat.add_mul, Nat.add_mul]
  have hRt : ROW.toList.take (i * 3) = (rc Po.cells l).take (i * 3) := by
    rw [rc_take Po.len, hROW, Array.toList_append, Array.toList_append, List.append_assoc]
    simp only [List.append_assoc]
    rw [List.take_append_of_le_length (by rw [hlT]; exact Nat.le_refl _), List.take_of_length_le (by rw [hlT]; exact Nat.le_refl _)]
  have hgn : (w.drew.alloc (.cells ROW 97)).heap[w.heap.size]? = some (.cells ROW 97 (0, 0)) := heap_alloc_new w.drew _
  have hgo : (w.drew.alloc (.cells ROW 97)).heap[g]? = some (.cells cur 97 (0, 0)) := (heap_alloc_old w.drew (.cells ROW 97) (show g < w.drew.heap.size from hgl)).trans hg
  have hgv : (w.drew.alloc (.cells ROW 97)).heap[vb]? = some (.cells x.cells.toArray 97 (0, 0)) := (heap_alloc_old w.drew (.cells ROW 97) (show vb < w.drew.heap.size from hvl)).trans hv
  have hW1 : Below B w (w.drew.alloc (.cells ROW 97)) := Below.alloc (show Below B w w.drew from ⟨rfl, rfl, rfl, Nat.le_refl _, fun _ _ => rfl⟩) hBw _
  have hgN : w.heap.size ≠ g := by omega
  have hvN : w.heap.size ≠ vb := by omega
  generalize w.drew.alloc (.cells ROW 97) = W1 at hrz hgn hgo hgv hW1
  generalize hNN : w.heap.size = N at hrz hgn hgN hvN hBw
  clear hNN
  have hXl : x.cells.length = 3 := Po.len x
  have hin1 : (i + 1) * 3 ≤ n * 3 := Nat.mul_le_mul_right _ (by omega)
  have hGmul : (n + 1) * 3 ≤ G * 3 := Nat.mul_le_mul_right _ hGn
  have hniM : (n - i) * 3 = n * 3 - i * 3 := Nat.sub_mul _ _ _
  have hcp1 := run_copyN (P := Tryz.prog) W1 22 22 3 97 3 N (i * 3) (n + 1 - i) (G - i) ⟨vb, 0, none⟩ 1 vc ROW 97 x.cells EPo.und info_size_po hgn (by rw [show Nat.min 1 (n + 1 - i) = 1 from Nat.min_eq_left (by omega)]; rfl)
    (fun j v hj => by rw [addr_add, Nat.zero_add, cell_of_row W1 vb j x.cells.toArray 97 (0, 0) hgv]; simpa using hj) (by rw [hXl, hRs]; omega) (Po.one x)
  rw [show Nat.min 1 (n + 1 - i) = 1 from Nat.min_eq_left (by omega)] at hcp1
  obtain ⟨R1, hR1⟩ : ∃ R1, R1 = ROW.toList.take (i * 3) ++ x.cells ++ ROW.toList.drop (i * 3 + x.cells.length) := ⟨_, rfl⟩
  rw [← hR1] at hcp1
  have hR1l : R1.length = G * 3 := by rw [hR1, List.length_append, List.length_append, List.length_take, List.length_drop, hXl, Array.length_toList, hRs]; omega
  have hgn2 := setRow_heap W1 N _ R1.toArray 97 (0, 0) hgn
  have hgo2 := (setRow_other W1 N g R1.toArray (fun h => hgN h.symm)).trans hgo
  have hW2 := below_setRow hW1 (Nat.le_trans hBw (Nat.le_refl _)) R1.toArray
  generalize W1.setRow N R1.toArray = W2 at hcp1 hgn2 hgo2 hW2
  have HRZ := Lib.hid hrz
  have HC1 := Lib.hid hcp1
  have HM : Hid (Nat.min (n - i) (n + 1 - (i + 1)) = n - i) := Lib.hid (Nat.min_eq_left (by omega))
  have HN := Lib.hid (show (rc Po.cells (l.drop i)).length = Nat.min (n - i) (n + 1 - (i + 1)) * 3 by rw [hlD, HM.out])
  have HS : Hid (∀ j v, (rc Po.cells (l.drop i))[j]? = some v → W2.drew.cell? ((⟨g, i * 3, none⟩ : Addr).add j) = some v) := Lib.hid (by
    intro j v hj
    rw [addr_add]
    show W2.cell? _ = _
    rw [cell_of_row W2 g _ cur 97 (0, 0) hgo2, ← Array.getElem?_toList]
    rw [← rc_drop Po.len, List.getElem?_drop, ← ht, List.getElem?_take] at hj
    split at hj
    · exact hj
    · cases hj)
  have HF := Lib.hid (show (i + 1) * 3 + (rc Po.cells (l.drop i)).length ≤ R1.length by rw [hlD, hR1l, hniM]; omega)
  have HG := Lib.hid (show W2.drew.heap[N]? = some (.cells R1.toArray 97 (0, 0)) from hgn2)
  have HD : Hid (Below B w W2.drew) := Lib.hid ⟨hW2.os, hW2.tape, hW2.output, hW2.size, hW2.block⟩
  have HGR := Lib.hid (grow_row ROW.toList x.cells (rc Po.cells (l.drop i)) (rc Po.cells l) (i * 3) ((i + 1) * 3) (G * 3) (by simpa using hRs) (by rw [hXl]; omega) (by rw [hlD, hniM]; omega) hRt)
  have HLD := Lib.hid hlD
  have HR1 := Lib.hid hR1
  have HBN := Lib.hid hBw
  have HGM := Lib.hid hGm
  have HGN := Lib.hid hGn
  have HNI := Lib.hid hniM
  have HLN := Lib.hid hn
  have hw1 : IntKind.i64.wrap ((i : Int) + 1) = (i : Int) + 1 := by rw [IntKind.wrap_i64]; omega
  have hw2 : IntKind.i64.wrap ((n : Int) + 1) = (n : Int) + 1 := by rw [IntKind.wrap_i64]; omega
  have hw3 : IntKind.i64.wrap ((n : Int) + 1 - (i : Int)) = (n : Int) + 1 - (i : Int) := by rw [IntKind.wrap_i64]; omega
  have hb1 : (0 : Int) ≤ (i : Int) + 1 := by omega
  have htn : ((i : Int) + 1).toNat = i + 1 := by omega
  have hb2 : ¬ (G = i + 1) := by omega
  have hb3 : (i : Int) ≤ (n : Int) := by omega
  have hb4 : ¬ (c = i) := by omega
  have hb5 : ¬ (G = i) := by omega
  have hz2 : ¬ ((i : Int) = (n : Int)) := by omega
  have hz3 : (c : Int) < (n : Int) + 1 := by omega
  have hin : i ≤ n := by omega
  unfold maxLen at hcm hGm
  clear hik hkk hold hROW hG hRs hRt hlT hlD hrz hgn hgo hgv hcp1 hgn2 hgo2 hR1 hR1l hXl hin1 hGmul hniM hsize hby hzs hinf hz hg hv ht hcs hGn hn hBw hW2 hW1 hown
  go_enter Tryz.func117, Tryz.ntmps117
  go_wp2_with (first | (at_builtin; refine Lib.wpList_append_run _ rfl _ _ _ _ rfl _ _ rfl rfl _ _ HRZ.out ?_) | fail)
  rw [HC1.out, Result.andThen_ok, Oper.upon_value]
  go_wp2_with fail
  go_region_law (refine step_copyN rfl (.tmp 50) (.tmp 53) 22 22 rfl 97 3 EPo.und info_size_po N ((i + 1) * 3) (n + 1 - (i + 1)) (G - (i + 1)) ⟨g, i * 3, none⟩ (n - i) (c - i) (by simp [Act.eval, Act.put]; done) (by simp [Act.eval, Act.put]; done) R1 97 HG.out (rc Po.cells (l.drop i)) HN.out HS.out HF.out (rc_one Po.one _) B w HD.out HBN.out ?_; intro w4 hg4 hk4 hb4; rw [HM.out])
  go_wp2
  go_ret
  have hD := HLD.out
  have hgr := HGR.out
  rw [← HR1.out] at hgr
  refine ⟨⟨some ⟨N, 0, none⟩, G, rfl, ?_, .inr ⟨N, G, _, rfl, HBN.out, hg4.out, HGN.out, HGM.out, ?_, ?_⟩⟩, hb4⟩
  · have hn := HLN.out
    rw [rc_length Po.len]
    simp
    omega
  · rw [List.size_toArray]
    exact hgr.1
  · have h2 := hgr.2
    have hN1 : (n + 1) * 3 = (i + 1) * 3 + (rc Po.cells (l.drop i)).length := by
      have : i * 3 ≤ n * 3 := Nat.mul_le_mul_right _ hin
      rw [hD, HNI.out]
      omega
    rw [rc_append, rc_cons, ← rc_take Po.len, ← h2, hN1]
theorem insert_po (B g i n c vb vc : Nat) (l : List Po) (x : Po) (w : World) (hn : l.length = n) (hn6 : n ≤ 1000000) (hi : i < n) (hown : w.ownsRow B 97 3 (.slice (some ⟨g, 0, none⟩) n c) n (rc Po.cells l))
    (hv : w.heap[vb]? = some (.cells x.cells.toArray 97 (0, 0))) (hne : vb ≠ g) (hBw : B ≤ w.heap.size) :
    Calls Tryz.prog 117 #[.slice (some ⟨g, 0, none⟩) n c, .int .i64 i, .slice (some ⟨vb, 0, none⟩) 1 vc] w fun e w' =>
      (∃ A' c', e = .returned (.slice A' (n + 1) c') ∧ w'.ownsRow B 97 3 (.slice A' (n + 1) c') (n + 1) (rc Po.cells (l.take i ++ x :: l.drop i))) ∧ Below B w w' := by
  by_cases h : n + 1 ≤ c
  · exact insert_room_po B g i n c vb vc l x w hn hi h hown hv hne
  · exact insert_grow_po B g i n c vb vc l x w hn hn6 hi (by omega) hown hv hBw
end Go.Proofs.YtahdmomadbbhoaaGreat
end
