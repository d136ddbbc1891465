import Derived.Test.YtahdmomadbbhoaaGreatDg37
section
namespace Go.Proofs.YtahdmomadbbhoaaGreat
open Go.ChangeShapes Go.WideShapes Go.ChangeAt Go.RowKit
open Go.Sort (grow alloc_eq_grow grow_grow HoldsK cell?_grow frozen?_grow flatK PermIn SortedIn SWO)
open Go.Maps (Keyed IsMap)
set_option linter.unusedVariables false
set_option linter.unusedSimpArgs false

instance : Inhabited Fw := ⟨Fw.zero⟩
def cfF (x y : Fw) : Int := if ahF x y = true then -1 else 1
theorem lt_cfF (x y : Fw) : ltOf cfF x y = ahF x y := by
  unfold ltOf cfF
  cases ahF x y <;> simp
theorem swoF : SWO (ltOf cfF) where
  irrefl x := by
    rw [lt_cfF]
    cases e : ahF x x with
    | false => rfl
    | true => have := ordF.asy _ _ e; rw [e] at this; cases this
  trans x y z h1 h2 := by rw [lt_cfF] at *; exact ordF.tr _ _ _ h1 h2
  ntrans x y z h1 h2 := by
    rw [lt_cfF] at *
    simp only [ahF, keyLt_not] at *
    omega
theorem below_sortF {α : Type} [Inhabited α] {B : Nat} {w0 W : World} (h : Below B w0 W) (enc : α → List Value) (k blk off m : Nat) (d : Array α) (os : Array Obj) (hb : B ≤ blk) (hlt : blk < W.heap.size) :
    Below B w0 (sortWorldK enc k W blk off m d os) := by
  refine h.trans ⟨rfl, rfl, rfl, ?_, ?_⟩
  · simp [sortWorldK, grow, Go.Sort.putRowK, Go.Sort.putRow, Go.Sort.mapBlock, Go.Sort.ahead]
  · intro i hi
    show ((W.heap.modify blk _) ++ os)[i]? = _
    rw [Array.getElem?_append_left (by simp; omega), Array.getElem?_modify, if_neg (by omega)]
set_option maxHeartbeats 1000000 in
set_option maxRecDepth 100000 in
theorem aless_gr (ua uc va vc : Int) (w : World) : Calls Tryz.prog 104 #[.agg #[.int .i64 ua, .int .i64 uc], .agg #[.int .i64 va, .int .i64 vc]] w fun e w' => e = .returned (.bool (keyLt ua uc va vc)) ∧ ∃ os', w' = grow w os' := by
  by_cases h1 : ua < va
  · have HE : Hid (keyLt ua uc va vc = true) := Lib.hid (by simp [keyLt, h1])
    go_enter Tryz.func104, Tryz.ntmps104
    go_wp2_with fail
    go_ret
    exact ⟨retB HE.out.symm, _, by rw [alloc_eq_grow, alloc_eq_grow, grow_grow]⟩
  by_cases h2 : ua = va
  · subst h2
    have HE : Hid (keyLt ua uc ua vc = decide (uc < vc)) := Lib.hid (by simp [keyLt])
    go_enter Tryz.func104, Tryz.ntmps104
    go_wp2_with fail
    go_ret
    exact ⟨retB HE.out.symm, _, by rw [alloc_eq_grow, alloc_eq_grow, grow_grow]⟩
  · have HE : Hid (keyLt ua uc va vc = false) := Lib.hid (decide_eq_false (by omega))
    have h2b : (ua == va) = false := by simpa using h2
    clear h2
    go_enter Tryz.func104, Tryz.ntmps104
    go_wp2_with fail
    go_ret
    exact ⟨retB HE.out.symm, _, by rw [alloc_eq_grow, alloc_eq_grow, grow_grow]⟩
set_option maxHeartbeats 1000000 in
set_option maxRecDepth 100000 in
theorem pahead_gr (x y : Fw) (w : World) : Calls Tryz.prog 76 #[x.val, y.val] w fun e w' => e = .returned (.bool (ahF x y)) ∧ ∃ os', w' = grow w os' := by
  obtain ⟨ua, uc, uq⟩ := x
  obtain ⟨va, vc, vq⟩ := y
  unfold Fw.val ahF
  simp only
  go_enter Tryz.func76, Tryz.ntmps76
  go_wp2_with fail
  refine (aless_gr ua uc va vc _).mono ?_
  rintro e w1 ⟨rfl, os1, rfl⟩
  go_wp2_with fail
  go_ret
  exact ⟨rfl, _, by rw [alloc_eq_grow, alloc_eq_grow, grow_grow, grow_grow]⟩
set_option maxHeartbeats 1000000 in
set_option maxRecDepth 100000 in
theorem pcmp_any (x y : Fw) (w : World) : Calls Tryz.prog 121 #[x.val, y.val] w fun e w' => e = .returned (.int .i64 (cfF x y)) ∧ ∃ q os', w' = grow (w.drewN q) os' := by
  have HA := Lib.hid (fun V => pahead_gr x y V)
  unfold cfF
  obtain ⟨ua, uc, uq⟩ := x
  obtain ⟨va, vc, vq⟩ := y
  unfold Fw.val at *
  simp only at *
  cases hq : ahF ⟨ua, uc, uq⟩ ⟨va, vc, vq⟩ with
  | true =>
    rw [hq] at HA
    clear hq
    go_enter Tryz.func121, Tryz.ntmps121
    go_wp2_with fail
    refine (HA.out _).mono ?_
    rintro e w1 ⟨rfl, os1, rfl⟩
    go_wp2_with fail
    go_ret
    exact ⟨by simp, 0, _, by rw [alloc_eq_grow, alloc_eq_grow, grow_grow, grow_grow]; rfl⟩
  | false =>
    rw [hq] at HA
    clear hq
    go_enter Tryz.func121, Tryz.ntmps121
    go_wp2_with fail
    refine (HA.out _).mono ?_
    rintro e w1 ⟨rfl, os1, rfl⟩
    go_wp2_with fail
    go_ret
    exact ⟨by simp, 0, _, by rw [alloc_eq_grow, alloc_eq_grow, grow_grow, grow_grow]; rfl⟩
theorem sorted_flows {d d' : Array Fw} (hp : PermIn 0 d.size d d') (hs : SortedIn (ltOf cfF) 0 d.size d') (hd : d.toList.Pairwise (fun x y => ¬ (x.ac = y.ac ∧ x.cl = y.cl))) :
    d'.size = d.size ∧ (∀ x, x ∈ d'.toList ↔ x ∈ d.toList) ∧ d'.toList.Pairwise (fun a b => ahF a b = true) := by
  obtain ⟨h1, _, h3⟩ := hp
  have e1 : (d'.extract 0 d.size).toList = d'.toList := by rw [← h1]; simp
  have e2 : (d.extract 0 d.size).toList = d.toList := by simp
  rw [e1, e2] at h3
  refine ⟨h1, fun x => h3.mem_iff, ?_⟩
  have hd' : d'.toList.Pairwise (fun x y => ¬ (x.ac = y.ac ∧ x.cl = y.cl)) := (h3.symm.pairwise_iff (fun {x y} h h2 => h ⟨h2.1.symm, h2.2.symm⟩)).1 hd
  rw [List.pairwise_iff_getElem] at hd' ⊢
  intro i j hi hj hij
  have hi' : i < d'.size := by simpa using hi
  have hj' : j < d'.size := by simpa using hj
  have h := hs i j (Nat.zero_le _) hij (by omega)
  rw [getElem!_pos d' i hi', getElem!_pos d' j hj', lt_cfF] at h
  have hn := hd' i j hi hj hij
  simp only [Array.getElem_toList] at hn ⊢
  simp only [ahF, keyLt_not, keyLt_iff] at h ⊢
  omega
set_option maxHeartbeats 1000000 in
theorem sortF_any (B g c : Nat) (O : List Fw) (W : World) (ho : O.length ≤ 100000) (hd : O.Pairwise (fun x y => ¬ (x.ac = y.ac ∧ x.cl = y.cl))) (hown : W.ownsRow B 86 3 (.slice (some ⟨g, 0, none⟩) O.length c) O.length (rc Fw.cells O)) :
    Calls Tryz.prog 120 #[.slice (some ⟨g, 0, none⟩) O.length c, .func (.func 121) #[] #[]] W fun e w' =>
      e = .returned (.tuple #[]) ∧ (∃ R : List Fw, R.length = O.length ∧ (∀ x, x ∈ R ↔ x ∈ O) ∧ R.Pairwise (fun a b => ahF a b = true) ∧ Sl w' (some ⟨g, 0, none⟩) (rc Fw.cells R)) ∧ (∀ w0, Below B w0 W → Below B w0 w') := by
  obtain ⟨hBg, hgW, hfz, hcells⟩ := own_slice_g hown
  have hsz : O.toArray.size = O.length := by simp
  have hfl : ∀ j, j < (flatK Fw.cells 3 O.toArray).size → (rc Fw.cells O)[j]? = some (flatK Fw.cells 3 O.toArray)[j]! := by
    intro j hj
    rw [Go.Sort.size_flatK] at hj
    rw [Go.Sort.get_flatK _ _ _ _ hj]
    have hj3 : j / 3 < O.length := by rw [hsz] at hj; omega
    have := rc_at Fw.len O (j / 3) hj3 (j % 3) (by omega)
    rw [show j / 3 * 3 + j % 3 = j by omega] at this
    rw [this, getElem!_pos O.toArray (j / 3) (by rw [hsz]; exact hj3)]
    have hl : (Fw.cells O[j / 3]).length = 3 := Fw.len _
    rw [List.getElem?_eq_getElem (by rw [hl]; omega)]
    simp [getElem!_pos, hl, Nat.mod_lt]
  have hH : HoldsK Fw.cells 3 W g 0 O.toArray := by
    intro j hj
    rw [Nat.zero_add]
    exact ⟨hcells j _ (hfl j hj), hfz j⟩
  have eg : ∀ args w, (callFunc 121 args).run Tryz.prog w = .ok (.enter 121 args) w := enters_of Tryz.func121 (by kernel_rfl) rfl
  have hcon := AnyQ.slices_SortFunc Tryz.sortFlow 3 Tryz.isAgg86 Tryz.sizeOf86 Fw.cells (fun x => Fw.len x) (fun x v hv => Fw.one x v hv) cfF swoF 121 #[] g 0 c O.toArray W eg
    (fun _ _ _ _ x y => pcmp_any x y _) hH hgW (by rw [hsz]; omega)
  change Calls Tryz.prog 120 _ _ _ at hcon
  rw [hsz] at hcon
  refine hcon.mono ?_
  rintro e w' ⟨rfl, d', n, os, hp, hs, rfl⟩
  obtain ⟨q1, q2, q3⟩ := sorted_flows (d := O.toArray) (by rw [hsz]; exact hp) (by rw [hsz]; exact hs) (by simpa using hd)
  have hH' := holdsK_sortWorldK Fw.cells 3 W g 0 n O.toArray d' os hgW hH (by rw [hsz, q1, hsz])
  refine ⟨rfl, ⟨d'.toList, by simpa [hsz] using q1, fun x => by simpa using q2 x, q3, ?_⟩, fun w0 hb => below_sortF hb _ _ _ _ _ _ _ hBg hgW⟩
  intro _
  refine ⟨g, 0, rfl, fun j u hu => ?_⟩
  rw [Nat.zero_add]
  have hjl : j < d'.size * 3 := by
    have h1 := (List.getElem?_eq_some_iff.1 hu).1
    rw [rc_length Fw.len] at h1
    simpa using h1
  have hi : j / 3 < d'.size := by omega
  have h1 := (hH'.cell (i := j / 3) (c := j % 3) hi (by omega)).1
  rw [Nat.zero_add, show j / 3 * 3 + j % 3 = j by omega] at h1
  rw [h1, getElem!_pos d' (j / 3) hi]
  have h2 := rc_at Fw.len d'.toList (j / 3) (by simpa using hi) (j % 3) (by omega)
  rw [show j / 3 * 3 + j % 3 = j by omega, hu] at h2
  have hl : (Fw.cells d'[j / 3]).length = 3 := Fw.len _
  simp only [Array.getElem_toList] at h2
  rw [List.getElem?_eq_getElem (by rw [hl]; omega)] at h2
  injection h2 with h2
  rw [h2]
  simp [getElem!_pos, hl, Nat.mod_lt]
end Go.Proofs.YtahdmomadbbhoaaGreat
end
