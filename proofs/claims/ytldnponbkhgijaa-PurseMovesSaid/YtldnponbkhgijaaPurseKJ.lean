import Derived.Test.YtldnponbkhgijaaPurseMJ
import Derived.Maps.RangeWalk
import Derived.Maps.OwnSet
import Derived.Maps.Views
import Derived.DeepKeys4
import Derived.Test.YtldnponbkhgijaaSort17J
section
/-
  Layer 17: maps from units to wide numbers: the keys, the elements, what such a map holds.
-/
namespace Go.Proofs.Ytldnponbkhgijaa
open Go.ChangeShapes Go.WideShapes Go.ChangeAt Go.RowKit
open Go.Maps (Keyed IsMap)
open Go.WideMaps
set_option linter.unusedVariables false
set_option linter.unusedSimpArgs false

theorem rowUn : (24 : TypeId) < Try.prog.types.size := of_decide_eq_true (by kernel_rfl)
theorem wideUn : (match Try.prog.underlying 24 with | some (.array _ _) | some (.struct _) => true | _ => false) = true := by kernel_rfl
set_option maxRecDepth 100000 in
theorem lawUn : KeyLaw Try.prog 24 := deep_law_laid laidOut (m := 2) (by omega) rowUn (by kernel_rfl) wideUn
theorem keyed : Keyed Try.prog 24 := Keyed.of_law lawUn
def unitV (x : Int × Int) : Value := .agg #[.int .i64 x.1, .int .i64 x.2]
def W64 (n : Int) : Prop := (Lit.int .i64 n).wf = true
def klU (a c : Int) : Lit := .string (keyBytes [.int .i64 a, .int .i64 c])
theorem w64_of {n : Int} (h : In64 n) : W64 n := by
  unfold W64 In64 at *
  simp only [Lit.wf, Bool.and_eq_true, decide_eq_true_eq]
  have h1 : IntKind.i64.min = -9223372036854775808 := by decide
  have h2 : IntKind.i64.max = 9223372036854775807 := by decide
  rw [h1, h2]
  exact h
theorem keyU {a c : Int} (ha : W64 a) (hc : W64 c) : keyOf Try.prog 24 (unitV (a, c)) = some (klU a c) := by
  have h1 : Try.prog.keyType 24 = true := by kernel_rfl
  obtain ⟨m, hm⟩ : ∃ m, Try.prog.types.size = m + 1 := ⟨Try.prog.types.size - 1, by kernel_rfl⟩
  have hc1 : Try.prog.cellsOf 24 = 2 := by kernel_rfl
  have hc2 : Try.prog.cellsOf 3 = 1 := by kernel_rfl
  have hf : (unitV (a, c)).formed Try.prog 24 = true := by
    simp [unitV, Value.formed, Try.underlying24, hc1]
  have hl : Try.prog.keyLits (Try.prog.types.size + 1) 24 (unitV (a, c)).cells.toList = some [.int .i64 a, .int .i64 c] := by
    unfold W64 at ha hc
    rw [hm]
    simp [Program.keyLits, Try.underlying24, Try.underlying3, unitV, Value.cells, hc1, hc2, ha, hc]
  unfold keyOf
  rw [Try.underlying24]
  simp only
  rw [h1, hf, hl]
  rfl
set_option maxRecDepth 100000 in
theorem keyU_inv {v : Value} {l : Lit} (h : keyOf Try.prog 24 v = some l) : ∃ a c, v = unitV (a, c) ∧ W64 a ∧ W64 c ∧ l = klU a c := by
  obtain ⟨xs, L, rfl, hL, rfl⟩ := keyOf_top wideUn h
  obtain ⟨m, hm⟩ : ∃ m, Try.prog.types.size = m + 1 := ⟨Try.prog.types.size - 1, by kernel_rfl⟩
  have hc1 : Try.prog.cellsOf 24 = 2 := by kernel_rfl
  have hc2 : Try.prog.cellsOf 3 = 1 := by kernel_rfl
  rw [hm] at hL
  have hlen : xs.toList.length = 2 := by
    unfold Program.keyLits at hL
    rw [Try.underlying24] at hL
    simp only at hL
    split at hL
    · rename_i h1; rw [h1.1, hc1]
    · cases hL
  obtain ⟨ys⟩ := xs
  match ys, hlen, hL with
  | [x, y], _, hL =>
    cases x <;> cases y
    all_goals (simp [Program.keyLits, Try.underlying24, Try.underlying3, hc1, hc2] at hL)
    rename_i k1 z1 k2 z2 _
    by_cases p : k1 = IntKind.i64 ∧ (Lit.int IntKind.i64 z1).wf = true
    · by_cases q : k2 = IntKind.i64 ∧ (Lit.int IntKind.i64 z2).wf = true
      · rw [if_pos p, if_pos q] at hL
        simp at hL
        obtain ⟨rfl, p2⟩ := p
        obtain ⟨rfl, q2⟩ := q
        subst hL
        exact ⟨z1, z2, rfl, p2, q2, rfl⟩
      · rw [if_pos p, if_neg q] at hL
        simp at hL
    · rw [if_neg p] at hL
      simp at hL
/-- how a wide number reads as an element of a map -/
def dW (h l : Int) : DataW Unit := .agg [.lit (.int .i64 h), .lit (.int .u64 l)]
def rW (v : Value) : Option (DataW Unit × List MemPlace) :=
  match v with
  | .agg xs => (match xs.toList with | [.int .i64 h, .int .u64 l] => some (dW h l, []) | _ => none)
  | _ => none
def wdV (x : Int × Int) : Value := .agg #[.int .i64 x.1, .int .u64 x.2]
theorem rW_mk (h l : Int) : rW (wdV (h, l)) = some (dW h l, []) := rfl
theorem rW_inv {v : Value} {y : DataW Unit × List MemPlace} (h : rW v = some y) : ∃ x : Int × Int, v = wdV x ∧ y = (dW x.1 x.2, []) := by
  unfold rW at h
  split at h
  · rename_i xs
    split at h
    · rename_i h1 l1 e
      injection h with h
      refine ⟨(h1, l1), ?_, h.symm⟩
      unfold wdV
      congr 1
      exact Array.ext' e
    · cases h
  · cases h
theorem dW_inj {a b c d : Int} (h : dW a b = dW c d) : a = c ∧ b = d := by
  unfold dW at h
  simp at h
  exact h
def dZ (z : Int) : DataW Unit := dW (hiN z) (loN z)
theorem klU_key {a c : Int} (ha : W64 a) (hc : W64 c) : WideAt.IsKeyLit (klU a c) := keyed.key (keyU ha hc)
theorem klU_inj {a c a' c' : Int} (ha : W64 a) (hc : W64 c) (ha' : W64 a') (hc' : W64 c') (h : klU a c = klU a' c') : a = a' ∧ c = c' := by
  have h1 := keyU ha hc
  have h2 := keyU ha' hc'
  rw [← h] at h2
  have := keyed.inj h1 h2
  simp [unitV] at this
  exact this
/-- what a map holds behind flows -/
structure MapIs (fs : List Fw) (D : DataW Unit) : Prop where
  isMap : IsMap D
  at_ : ∀ a c, W64 a → W64 c → D.atKey (klU a c) (dZ 0) = dZ (sumU fs a c)
  all : ∀ x ∈ fs, ∀ z, D.atKey (klU x.ac x.cl) z = dZ (sumU fs x.ac x.cl)
  keys : ∀ kl, Maps.has D kl = true → ∃ x ∈ fs, kl = klU x.ac x.cl
  has : ∀ x ∈ fs, Maps.has D (klU x.ac x.cl) = true
  w64 : ∀ x ∈ fs, W64 x.ac ∧ W64 x.cl
theorem MapIs.nil : MapIs [] (.map []) where
  isMap := Maps.isMap_empty
  at_ a c _ _ := by
    rw [Maps.atKey_of_not_has rfl]
    rfl
  all x hx := by cases hx
  keys kl h := by simp [Maps.has] at h
  has x hx := by cases hx
  w64 x hx := by cases hx
theorem MapIs.step {fs : List Fw} {D : DataW Unit} (h : MapIs fs D) (x : Fw) (ha : W64 x.ac) (hc : W64 x.cl) : MapIs (fs ++ [x]) (D.put (klU x.ac x.cl) (dZ (sumU fs x.ac x.cl + x.amt))) := by
  have hs1 : sumU (fs ++ [x]) x.ac x.cl = sumU fs x.ac x.cl + x.amt := by
    rw [sumU_append, sumU_cons, if_pos ((unF_iff _ _ _).2 ⟨rfl, rfl⟩)]; simp [sumU]
  have hs2 : ∀ a c, ¬ (x.ac = a ∧ x.cl = c) → sumU (fs ++ [x]) a c = sumU fs a c := fun a c hn => by
    rw [sumU_append, sumU_cons, if_neg (fun h => hn ((unF_iff _ _ _).1 h))]; simp [sumU]
  refine ⟨h.isMap.put _ _, ?_, ?_, ?_, ?_, ?_⟩
  · intro a c wa wc
    by_cases e : x.ac = a ∧ x.cl = c
    · obtain ⟨rfl, rfl⟩ := e
      rw [Maps.atKey_put_same h.isMap (klU_key ha hc), hs1]
    · rw [Maps.atKey_put_other (fun e2 => e (let ⟨p, q⟩ := klU_inj wa wc ha hc e2; ⟨p.symm, q.symm⟩)), h.at_ a c wa wc, hs2 a c e]
  · intro y hy z
    by_cases e : x.ac = y.ac ∧ x.cl = y.cl
    · rw [← e.1, ← e.2, Maps.atKey_put_same h.isMap (klU_key ha hc), hs1]
    · rcases List.mem_append.1 hy with hy | hy
      · have hw := h.w64 y hy
        rw [Maps.atKey_put_other (fun e2 => e (let ⟨p, q⟩ := klU_inj hw.1 hw.2 ha hc e2; ⟨p.symm, q.symm⟩)), h.all y hy z, hs2 _ _ e]
      · obtain rfl : y = x := by simpa using hy
        exact absurd ⟨rfl, rfl⟩ e
  · intro kl hk
    by_cases e : kl = klU x.ac x.cl
    · exact ⟨x, by simp, e⟩
    · rw [Maps.has_put_other e] at hk
      obtain ⟨y, hy, e2⟩ := h.keys kl hk
      exact ⟨y, by simp [hy], e2⟩
  · intro y hy
    by_cases e : klU y.ac y.cl = klU x.ac x.cl
    · rw [e, Maps.has_put_same h.isMap (klU_key ha hc)]
    · rw [Maps.has_put_other e]
      rcases List.mem_append.1 hy with hy | hy
      · exact h.has y hy
      · obtain rfl : y = x := by simpa using hy
        exact absurd rfl e
  · intro y hy
    rcases List.mem_append.1 hy with hy | hy
    · exact h.w64 y hy
    · obtain rfl : y = x := by simpa using hy
      exact ⟨ha, hc⟩
end Go.Proofs.Ytldnponbkhgijaa
end
section
/-
  Layer 17, third part: the sort of flows; ordered (laid by gen_purse3.py).
-/
namespace Go.Proofs.Ytldnponbkhgijaa
open Go.ChangeShapes Go.WideShapes Go.ChangeAt Go.RowKit
open Go.Sort (grow alloc_eq_grow grow_grow HoldsK cell?_grow frozen?_grow flatK PermIn SortedIn SWO)
open Go.Maps (Keyed IsMap)
set_option linter.unusedVariables false
set_option linter.unusedSimpArgs false

instance : Inhabited Fw := ⟨Fw.zero⟩
def cfF (x y : Fw) : Int := if ahF x y = true then -1 else 1
theorem lt_cfF (x y : Fw) : ltOf cfF x y = ahF x y := by
  unfold ltOf cfF
  cases ahF x y <;> simp
theorem swoF : SWO (ltOf cfF) where
  irrefl x := by
    rw [lt_cfF]
    cases e : ahF x x with
    | false => rfl
    | true => have := ordF.asy _ _ e; rw [e] at this; cases this
  trans x y z h1 h2 := by rw [lt_cfF] at *; exact ordF.tr _ _ _ h1 h2
  ntrans x y z h1 h2 := by
    rw [lt_cfF] at *
    simp only [ahF, keyLt_not] at *
    omega
theorem below_sortF {α : Type} [Inhabited α] {B : Nat} {w0 W : World} (h : Below B w0 W) (enc : α → List Value) (k blk off m : Nat) (d : Array α) (os : Array Obj) (hb : B ≤ blk) (hlt : blk < W.heap.size) :
    Below B w0 (sortWorldK enc k W blk off m d os) := by
  refine h.trans ⟨rfl, rfl, rfl, ?_, ?_⟩
  · simp [sortWorldK, grow, Go.Sort.putRowK, Go.Sort.putRow, Go.Sort.mapBlock, Go.Sort.ahead]
  · intro i hi
    show ((W.heap.modify blk _) ++ os)[i]? = _
    rw [Array.getElem?_append_left (by simp; omega), Array.getElem?_modify, if_neg (by omega)]
set_option maxHeartbeats 1000000 in
set_option maxRecDepth 100000 in
theorem aless_gr (ua uc va vc : Int) (w : World) : Calls Try.prog 142 #[.agg #[.int .i64 ua, .int .i64 uc], .agg #[.int .i64 va, .int .i64 vc]] w fun e w' => e = .returned (.bool (keyLt ua uc va vc)) ∧ ∃ os', w' = grow w os' := by
  by_cases h1 : ua < va
  · have HE : Hid (keyLt ua uc va vc = true) := Lib.hid (by simp [keyLt, h1])
    go_enter Try.func142, Try.ntmps142
    go_wp2_with fail
    go_ret
    exact ⟨retB HE.out.symm, _, by rw [alloc_eq_grow, alloc_eq_grow, grow_grow]⟩
  by_cases h2 : ua = va
  · subst h2
    have HE : Hid (keyLt ua uc ua vc = decide (uc < vc)) := Lib.hid (by simp [keyLt])
    go_enter Try.func142, Try.ntmps142
    go_wp2_with fail
    go_ret
    exact ⟨retB HE.out.symm, _, by rw [alloc_eq_grow, alloc_eq_grow, grow_grow]⟩
  · have HE : Hid (keyLt ua uc va vc = false) := Lib.hid (decide_eq_false (by omega))
    have h2b : (ua == va) = false := by simpa using h2
    clear h2
    go_enter Try.func142, Try.ntmps142
    go_wp2_with fail
    go_ret
    exact ⟨retB HE.out.symm, _, by rw [alloc_eq_grow, alloc_eq_grow, grow_grow]⟩
set_option maxHeartbeats 1000000 in
set_option maxRecDepth 100000 in
theorem pahead_gr (x y : Fw) (w : World) : Calls Try.prog 80 #[x.val, y.val] w fun e w' => e = .returned (.bool (ahF x y)) ∧ ∃ os', w' = grow w os' := by
  obtain ⟨ua, uc, uq⟩ := x
  obtain ⟨va, vc, vq⟩ := y
  unfold Fw.val ahF
  simp only
  go_enter Try.func80, Try.ntmps80
  go_wp2_with fail
  refine (aless_gr ua uc va vc _).mono ?_
  rintro e w1 ⟨rfl, os1, rfl⟩
  go_wp2_with fail
  go_ret
  exact ⟨rfl, _, by rw [alloc_eq_grow, alloc_eq_grow, grow_grow, grow_grow]⟩
set_option maxHeartbeats 1000000 in
set_option maxRecDepth 100000 in
theorem pcmp_any (x y : Fw) (w : World) : Calls Try.prog 147 #[x.val, y.val] w fun e w' => e = .returned (.int .i64 (cfF x y)) ∧ ∃ q os', w' = grow (w.drewN q) os' := by
  have HA := Lib.hid (fun V => pahead_gr x y V)
  unfold cfF
  obtain ⟨ua, uc, uq⟩ := x
  obtain ⟨va, vc, vq⟩ := y
  unfold Fw.val at *
  simp only at *
  cases hq : ahF ⟨ua, uc, uq⟩ ⟨va, vc, vq⟩ with
  | true =>
    rw [hq] at HA
    clear hq
    go_enter Try.func147, Try.ntmps147
    go_wp2_with fail
    refine (HA.out _).mono ?_
    rintro e w1 ⟨rfl, os1, rfl⟩
    go_wp2_with fail
    go_ret
    exact ⟨by simp, 0, _, by rw [alloc_eq_grow, alloc_eq_grow, grow_grow, grow_grow]; rfl⟩
  | false =>
    rw [hq] at HA
    clear hq
    go_enter Try.func147, Try.ntmps147
    go_wp2_with fail
    refine (HA.out _).mono ?_
    rintro e w1 ⟨rfl, os1, rfl⟩
    go_wp2_with fail
    go_ret
    exact ⟨by simp, 0, _, by rw [alloc_eq_grow, alloc_eq_grow, grow_grow, grow_grow]; rfl⟩
theorem sorted_flows {d d' : Array Fw} (hp : PermIn 0 d.size d d') (hs : SortedIn (ltOf cfF) 0 d.size d') (hd : d.toList.Pairwise (fun x y => ¬ (x.ac = y.ac ∧ x.cl = y.cl))) :
    d'.size = d.size ∧ (∀ x, x ∈ d'.toList ↔ x ∈ d.toList) ∧ d'.toList.Pairwise (fun a b => ahF a b = true) := by
  obtain ⟨h1, _, h3⟩ := hp
  have e1 : (d'.extract 0 d.size).toList = d'.toList := by rw [← h1]; simp
  have e2 : (d.extract 0 d.size).toList = d.toList := by simp
  rw [e1, e2] at h3
  refine ⟨h1, fun x => h3.mem_iff, ?_⟩
  have hd' : d'.toList.Pairwise (fun x y => ¬ (x.ac = y.ac ∧ x.cl = y.cl)) := (h3.symm.pairwise_iff (fun {x y} h h2 => h ⟨h2.1.symm, h2.2.symm⟩)).1 hd
  rw [List.pairwise_iff_getElem] at hd' ⊢
  intro i j hi hj hij
  have hi' : i < d'.size := by simpa using hi
  have hj' : j < d'.size := by simpa using hj
  have h := hs i j (Nat.zero_le _) hij (by omega)
  rw [getElem!_pos d' i hi', getElem!_pos d' j hj', lt_cfF] at h
  have hn := hd' i j hi hj hij
  simp only [Array.getElem_toList] at hn ⊢
  simp only [ahF, keyLt_not, keyLt_iff] at h ⊢
  omega
set_option maxHeartbeats 1000000 in
theorem sortF_any (B g c : Nat) (O : List Fw) (W : World) (ho : O.length ≤ 100000) (hd : O.Pairwise (fun x y => ¬ (x.ac = y.ac ∧ x.cl = y.cl))) (hown : W.ownsRow B 48 3 (.slice (some ⟨g, 0, none⟩) O.length c) O.length (rc Fw.cells O)) :
    Calls Try.prog 146 #[.slice (some ⟨g, 0, none⟩) O.length c, .func (.func 147) #[] #[]] W fun e w' =>
      e = .returned (.tuple #[]) ∧ (∃ R : List Fw, R.length = O.length ∧ (∀ x, x ∈ R ↔ x ∈ O) ∧ R.Pairwise (fun a b => ahF a b = true) ∧ Sl w' (some ⟨g, 0, none⟩) (rc Fw.cells R)) ∧ (∀ w0, Below B w0 W → Below B w0 w') := by
  obtain ⟨hBg, hgW, hfz, hcells⟩ := own_slice_g hown
  have hsz : O.toArray.size = O.length := by simp
  have hfl : ∀ j, j < (flatK Fw.cells 3 O.toArray).size → (rc Fw.cells O)[j]? = some (flatK Fw.cells 3 O.toArray)[j]! := by
    intro j hj
    rw [Go.Sort.size_flatK] at hj
    rw [Go.Sort.get_flatK _ _ _ _ hj]
    have hj3 : j / 3 < O.length := by rw [hsz] at hj; omega
    have := rc_at Fw.len O (j / 3) hj3 (j % 3) (by omega)
    rw [show j / 3 * 3 + j % 3 = j by omega] at this
    rw [this, getElem!_pos O.toArray (j / 3) (by rw [hsz]; exact hj3)]
    have hl : (Fw.cells O[j / 3]).length = 3 := Fw.len _
    rw [List.getElem?_eq_getElem (by rw [hl]; omega)]
    simp [getElem!_pos, hl, Nat.mod_lt]
  have hH : HoldsK Fw.cells 3 W g 0 O.toArray := by
    intro j hj
    rw [Nat.zero_add]
    exact ⟨hcells j _ (hfl j hj), hfz j⟩
  have eg : ∀ args w, (callFunc 147 args).run Try.prog w = .ok (.enter 147 args) w := enters_of Try.func147 (by kernel_rfl) rfl
  have hcon := AnyQ.slices_SortFunc Try.sortFlow 3 Try.isAgg48 Try.sizeOf48 Fw.cells (fun x => Fw.len x) (fun x v hv => Fw.one x v hv) cfF swoF 147 #[] g 0 c O.toArray W eg
    (fun _ _ _ _ x y => pcmp_any x y _) hH hgW (by rw [hsz]; omega)
  change Calls Try.prog 146 _ _ _ at hcon
  rw [hsz] at hcon
  refine hcon.mono ?_
  rintro e w' ⟨rfl, d', n, os, hp, hs, rfl⟩
  obtain ⟨q1, q2, q3⟩ := sorted_flows (d := O.toArray) (by rw [hsz]; exact hp) (by rw [hsz]; exact hs) (by simpa using hd)
  have hH' := holdsK_sortWorldK Fw.cells 3 W g 0 n O.toArray d' os hgW hH (by rw [hsz, q1, hsz])
  refine ⟨rfl, ⟨d'.toList, by simpa [hsz] using q1, fun x => by simpa using q2 x, q3, ?_⟩, fun w0 hb => below_sortF hb _ _ _ _ _ _ _ hBg hgW⟩
  intro _
  refine ⟨g, 0, rfl, fun j u hu => ?_⟩
  rw [Nat.zero_add]
  have hjl : j < d'.size * 3 := by
    have h1 := (List.getElem?_eq_some_iff.1 hu).1
    rw [rc_length Fw.len] at h1
    simpa using h1
  have hi : j / 3 < d'.size := by omega
  have h1 := (hH'.cell (i := j / 3) (c := j % 3) hi (by omega)).1
  rw [Nat.zero_add, show j / 3 * 3 + j % 3 = j by omega] at h1
  rw [h1, getElem!_pos d' (j / 3) hi]
  have h2 := rc_at Fw.len d'.toList (j / 3) (by simpa using hi) (j % 3) (by omega)
  rw [show j / 3 * 3 + j % 3 = j by omega, hu] at h2
  have hl : (Fw.cells d'[j / 3]).length = 3 := Fw.len _
  simp only [Array.getElem_toList] at h2
  rw [List.getElem?_eq_getElem (by rw [hl]; omega)] at h2
  injection h2 with h2
  rw [h2]
  simp [getElem!_pos, hl, Nat.mod_lt]
end Go.Proofs.Ytldnponbkhgijaa
end
section
/-
  Layer 17, fourth part: ordered (laid by gen_purse4.py).
-/
namespace Go.Proofs.Ytldnponbkhgijaa
open Go.ChangeShapes Go.WideShapes Go.ChangeAt Go.RowKit
open Go.Maps (Keyed IsMap)
set_option linter.unusedVariables false
set_option linter.unusedSimpArgs false

/-- a purse, and an error's number -/
def PRes (w' : World) (e : Ending) (R : Int × List Fw) : Prop := ∃ A' c', e = .returned (.tuple #[.slice A' R.2.length c', .int .i64 R.1]) ∧ Sl w' A' (rc Fw.cells R.2)
theorem PRes.nil (w' : World) (n : Int) : PRes w' (.returned (.tuple #[.slice none 0 0, .int .i64 n])) (n, []) := ⟨none, 0, rfl, Sl.nil⟩
theorem grown_of_below {w w' : World} (h : Below w.heap.size w w') : w.grownBy w' none := ⟨h.os, h.tape, h.output, h.size, fun i hi _ => h.block i hi⟩
theorem rest_all {α : Type} {x y : α} : x = y → y = x := Eq.symm
theorem same_self {a c a' c' : Int} (ha : W64 a) (hc : W64 c) (ha' : W64 a') (hc' : W64 c') : (klU a' c').sameKey (klU a c) = decide (a' = a ∧ c' = c) := by
  by_cases h : a' = a ∧ c' = c
  · obtain ⟨rfl, rfl⟩ := h
    rw [decide_eq_true ⟨rfl, rfl⟩]
    have := Maps.has_put_same (H := Unit) (D := .map []) Maps.isMap_empty (klU_key ha hc) (.agg [])
    unfold klU at *
    simp [Lit.sameKey]
  · rw [decide_eq_false h]
    exact Maps.sameKey_ne fun e => h (klU_inj ha' hc' ha hc e)
/-- what has been collected -/
structure OutIs (fs : List Fw) (left : Lit → Bool) (O : List Fw) : Prop where
  sound : ∀ x ∈ O, (∃ y ∈ fs, y.ac = x.ac ∧ y.cl = x.cl) ∧ x.amt = sumU fs x.ac x.cl ∧ x.amt ≠ 0 ∧ left (klU x.ac x.cl) = false
  all : ∀ y ∈ fs, left (klU y.ac y.cl) = false → In64 (sumU fs y.ac y.cl) ∧ (sumU fs y.ac y.cl ≠ 0 → (⟨y.ac, y.cl, sumU fs y.ac y.cl⟩ : Fw) ∈ O)
  apart : O.Pairwise (fun x y => ¬ (x.ac = y.ac ∧ x.cl = y.cl))
theorem OutIs.start {fs : List Fw} {D : DataW Unit} (h : MapIs fs D) : OutIs fs (Maps.has D) [] :=
  ⟨fun x hx => (by cases hx), fun y hy hl => (by rw [h.has y hy] at hl; cases hl), List.Pairwise.nil⟩
theorem OutIs.skip {fs : List Fw} {D : DataW Unit} {left : Lit → Bool} {O : List Fw} (h : OutIs fs left O) (hD : MapIs fs D) {a c : Int} (ha : W64 a) (hc : W64 c) (hin : In64 (sumU fs a c)) (h0 : sumU fs a c = 0) : OutIs fs (fun z => left z && !z.sameKey (klU a c)) O := by
  refine ⟨fun x hx => ?_, fun y hy hl => ?_, h.apart⟩
  · obtain ⟨h1, h2, h3, h4⟩ := h.sound x hx
    exact ⟨h1, h2, h3, by rw [h4]; rfl⟩
  · have hw := hD.w64 y hy
    by_cases e : y.ac = a ∧ y.cl = c
    · rw [e.1, e.2]
      exact ⟨hin, fun hn => absurd h0 hn⟩
    · refine h.all y hy ?_
      rw [same_self ha hc hw.1 hw.2, decide_eq_false e] at hl
      simpa using hl
theorem OutIs.take {fs : List Fw} {D : DataW Unit} {left : Lit → Bool} {O : List Fw} (h : OutIs fs left O) (hD : MapIs fs D) {a c : Int} (ha : W64 a) (hc : W64 c) (hk : ∃ y ∈ fs, y.ac = a ∧ y.cl = c) (hl : left (klU a c) = true) (hin : In64 (sumU fs a c)) (h0 : sumU fs a c ≠ 0) : OutIs fs (fun z => left z && !z.sameKey (klU a c)) (O ++ [⟨a, c, sumU fs a c⟩]) := by
  refine ⟨fun x hx => ?_, fun y hy hly => ?_, ?_⟩
  · rcases List.mem_append.1 hx with hx | hx
    · obtain ⟨h1, h2, h3, h4⟩ := h.sound x hx
      exact ⟨h1, h2, h3, by rw [h4]; rfl⟩
    · obtain rfl : x = ⟨a, c, sumU fs a c⟩ := by simpa using hx
      refine ⟨hk, rfl, h0, ?_⟩
      simp only
      rw [same_self ha hc ha hc, decide_eq_true ⟨rfl, rfl⟩]
      simp
  · have hw := hD.w64 y hy
    by_cases e : y.ac = a ∧ y.cl = c
    · rw [e.1, e.2]
      exact ⟨hin, fun _ => by simp⟩
    · rw [same_self ha hc hw.1 hw.2, decide_eq_false e] at hly
      obtain ⟨h1, h2⟩ := h.all y hy (by simpa using hly)
      exact ⟨h1, fun hn => by simp [h2 hn]⟩
  · rw [List.pairwise_append]
    refine ⟨h.apart, by simp, fun x hx y hy => ?_⟩
    obtain rfl : y = ⟨a, c, sumU fs a c⟩ := by simpa using hy
    rintro ⟨e1, e2⟩
    obtain ⟨_, _, _, h4⟩ := h.sound x hx
    simp only at e1 e2
    rw [e1, e2, hl] at h4
    cases h4
theorem OutIs.done {fs O R : List Fw} {left : Lit → Bool} (h : OutIs fs left O) (hl : ∀ kl, left kl = false) (hm : ∀ x, x ∈ R ↔ x ∈ O) (hs : R.Pairwise (fun a b => ahF a b = true)) : R = purseOf fs ∧ fitsU fs = true := by
  refine ⟨purse_unique hs fun x => ?_, ?_⟩
  · rw [hm]
    constructor
    · intro hx
      obtain ⟨h1, h2, h3, _⟩ := h.sound x hx
      exact ⟨h1, h2, h3⟩
    · rintro ⟨⟨y, hy, e1, e2⟩, h2, h3⟩
      have := (h.all y hy (hl _)).2
      rw [e1, e2, ← h2] at this
      have h4 := this h3
      cases x
      exact h4
  · unfold fitsU
    rw [List.all_eq_true]
    intro u hu
    obtain ⟨x, hx, e1, e2⟩ := (mem_unitsU fs u).1 hu
    rw [fitI_iff, ← e1, ← e2]
    exact (h.all x hx (hl _)).1
theorem fits_no {fs : List Fw} {a c : Int} (hk : ∃ y ∈ fs, y.ac = a ∧ y.cl = c) (h : ¬ In64 (sumU fs a c)) : fitsU fs = false := by
  rw [← Bool.not_eq_true]
  intro hf
  unfold fitsU at hf
  rw [List.all_eq_true] at hf
  have := hf ⟨a, c⟩ ((mem_unitsU fs _).2 hk)
  exact h ((fitI_iff _).1 this)
theorem rng_ne {P : Program} {k : TypeId} {R : Value → Option (DataW Unit × List MemPlace)} {w : World} {b r n : Nat} {D : DataW Unit} {left : Lit → Bool} {cnt : Nat} (h : w.ranges P k R b r n D left cnt) {B e s m c : Nat} {g : Nat} {xs : List Value} (ho : w.ownsRow B e s (.slice (some ⟨g, 0, none⟩) m c) m xs) : g ≠ b ∧ g ≠ r := by
  obtain ⟨es, clock, since, seen, c0, hb, _, _, _, hr, _⟩ := h
  rcases ho.2 with ⟨hv, _⟩ | ⟨g', cap, cur, hv, _, hg, _⟩
  · cases hv
  · injection hv with e1 _ _
    injection e1 with e1
    injection e1 with e1
    subst e1
    constructor
    · rintro rfl; rw [hg] at hb; cases hb
    · rintro rfl; rw [hg] at hr; cases hr
theorem own_some {w : World} {B e s n c : Nat} {A : Option Addr} {xs : List Value} (h : w.ownsRow B e s (.slice A n c) n xs) (hn : 0 < n) : ∃ g, A = some ⟨g, 0, none⟩ := by
  obtain ⟨g, rfl, _⟩ := own_at h hn
  exact ⟨g, rfl⟩

set_option maxHeartbeats 8000000 in
set_option maxRecDepth 100000 in
theorem ordered_any (fs : List Fw) (D : DataW Unit) (b n : Nat) (w : World) (hn : n ≤ 100000) (hown : w.ownsMap Try.prog 24 rW b n D) (hD : MapIs fs D) (h128 : ∀ a c, In128 (sumU fs a c)) :
    Calls Try.prog 87 #[.map (some b)] w fun e w' => PRes w' e (if fitsU fs = false then (7, []) else (0, purseOf fs)) ∧ Below w.heap.size w w' := by
  obtain ⟨RES, hRES⟩ : ∃ R, (if fitsU fs = false then ((7 : Int), ([] : List Fw)) else (0, purseOf fs)) = R := ⟨_, rfl⟩
  rw [hRES]
  have HRES := Lib.hid hRES
  clear hRES
  have hsz : Maps.size D ≤ n := hown.size_le
  have hbw : b < w.heap.size := hown.lt
  have HD := Lib.hid hD
  have H128 := Lib.hid h128
  clear hD h128
  obtain ⟨N0, hN0⟩ : ∃ N0, Maps.size D = N0 := ⟨_, rfl⟩
  rw [hN0] at hsz
  have HN0 := Lib.hid hN0
  have HHAS : Hid (∀ kl, Maps.has D kl = true → ∃ x ∈ fs, kl = klU x.ac x.cl) := Lib.hid HD.out.keys
  clear hN0
  go_enter Try.func87, Try.ntmps87
  go_wp2_with (first
    | (refine wpList_len_own _ rfl _ 126 rfl 24 28 Try.underlying126 rW b n D rfl hown ?_; rw [HN0.out])
    | (at_make; refine wpList_mk rfl (.const (.int .i64 0)) (.tmp 10) rfl EFw N0 rfl rfl rfl (by omega) (by unfold maxLen; omega) (Nat.le_refl _) ?_; intro w1 own1 hb1)
    | (at_range; refine wpList_range_own _ rfl _ 126 rfl 24 28 keyed Try.underlying126 rW b n D rfl (hown.kept (grown_of_below hb1) (by simp)) ?_; intro w2 hrg2 hg2 hs2)
    | fail)
  go_frame
  have own2 := own1.kept hg2 (Or.inr (by simp [Value.ownBlock]))
  have hrB := hb1.size
  have hB2 : Below w.heap.size w w2 := hb1.trans (below_of_grown hg2 hb1.size (by simp))
  rw [HN0.out] at hrg2
  generalize hr : w1.heap.size = r at *
  clear hown hg2 hs2 hr hb1 own1
  go_loopw [4] (fun ov wr => ∃ (left : Lit → Bool) (cnt : Nat) (O : List Fw) (g c' : Nat), wr.ranges Try.prog 24 rW b r n D left cnt ∧ ov = .slice (some ⟨g, 0, none⟩) O.length c' ∧ wr.ownsRow w.heap.size 48 3 (.slice (some ⟨g, 0, none⟩) O.length c') O.length (rc Fw.cells O) ∧ OutIs fs left O ∧ (∀ kl, left kl = true → Maps.has D kl = true) ∧ O.length + cnt ≤ N0 ∧ Below w.heap.size w wr) (fun _ wr => wr.rangeLeft b r)
  case atStart => exact ⟨Maps.has D, _, [], _, _, hrg2, rfl, own2, OutIs.start HD.out, fun kl h => h, by simp, hB2⟩
  case round =>
    obtain ⟨left, cnt, O, g, oc, hrg, rfl, ownO, hO, hlft, hcnt, hB⟩ := hrel
    have HO := Lib.hid hO
    have HL := Lib.hid hlft
    clear hO hlft own2 hB2 hrg2
    go_wp2_with (first
      | (at_next; refine wpList_next_ranges (H := Unit) _ rfl _ rfl 24 keyed rW unitV wdV (fun key kl hk => by obtain ⟨a, c, h, _⟩ := keyU_inv hk; exact ⟨(a, c), h⟩) (fun v y hv => by obtain ⟨x, h, _⟩ := rW_inv hv; exact ⟨x, h⟩) b r n D left cnt rfl hrg ?_ ?_)
      | fail)
    · intro hc0 hl0
      have hne := rng_ne hrg ownO
      obtain ⟨hgB, _⟩ := own_slice_g ownO
      have HSO := Lib.hid (sortF_any w.heap.size g oc O _ (by omega) HO.out.apart ownO)
      have HL0 := Lib.hid hl0
      clear hl0 hc0 hrg
      go_wp2_with fail
      refine HSO.out.mono ?_
      rintro e w3 ⟨rfl, ⟨R, hRl, hRm, hRs, hsl⟩, hbb⟩
      have hBf := hbb w hB
      obtain ⟨hR1, hR2⟩ := HO.out.done HL0.out hRm hRs
      have HRR : Hid (RES = ((0 : Int), R)) := Lib.hid (by rw [← HRES.out, hR2, if_neg (by decide), hR1])
      clear hR1 hR2 hRm hRs hbb
      go_wp2_with fail
      go_ret2
      rw [HRR.out]
      exact ⟨⟨some ⟨g, 0, none⟩, oc, by simp only; rw [hRl]; rfl, hsl⟩, hBf⟩
    · intro a cc ch cl kl y1 ps w1 cnt1 hkx hlx hy hat hrg1 hlt hg1 hs1 hen
      obtain ⟨a', c', hx, wa, wc, rfl⟩ := keyU_inv hkx
      obtain ⟨rfl, rfl⟩ : a = a' ∧ cc = c' := by
        unfold unitV at hx
        simp at hx
        exact hx
      have hk := HHAS.out _ (HL.out _ hlx)
      have hk2 : ∃ y ∈ fs, y.ac = a ∧ y.cl = cc := by
        obtain ⟨f, hf, e⟩ := hk
        have hw := HD.out.w64 f hf
        obtain ⟨e1, e2⟩ := klU_inj wa wc hw.1 hw.2 e
        exact ⟨f, hf, e1.symm, e2.symm⟩
      have hyv : y1 = dW ch cl := by
        rw [rW_mk] at hy
        simp at hy
        exact hy.1.symm
      have hval : dW ch cl = dZ (sumU fs a cc) := by
        obtain ⟨f, hf, rfl, rfl⟩ := hk2
        rw [← HD.out.all f hf (dZ 0), hat, hyv]
      obtain ⟨rfl, rfl⟩ := dW_inj hval
      have h128 := H128.out a cc
      obtain ⟨z, hz⟩ : ∃ z, sumU fs a cc = z := ⟨_, rfl⟩
      rw [hz] at h128 hen ⊢
      have HZ := Lib.hid hz
      have HK2 := Lib.hid hk2
      have HLX := Lib.hid hlx
      have HW := Lib.hid (And.intro wa wc)
      have hgw := ownO.kept hg1 (Or.inr (by have := (rng_ne hrg ownO).2; simp only [Value.ownBlock, ne_eq, Option.some.injEq]; exact this))
      have hB1 : Below w.heap.size w w1 := hB.trans (below_of_grown hg1 hB.size (fun j hj => by cases hj; exact hrB))
      have hlm : cnt1 < cnt := hlt
      have HLE := Lib.hid hrg.left_eq
      unfold unitV wdV at hen ⊢
      simp only at hen ⊢
      clear hk hk2 hlx hkx hy hat hx hyv hval hg1 hs1 wa wc hz ownO hB hrg
      have hk1 := Bk.new w1 #[.int .i64 a, .int .i64 cc] 24
      have hk1 := hk1.alloc (.cells #[.int .i64 (hiN z), .int .u64 (loN z)] 28)
      have hA0 := (Below.refl w1.heap.size w1).alloc (Nat.le_refl _) (.cells #[.int .i64 a, .int .i64 cc] 24)
      have hA1 := since_alloc hA0 (.cells #[.int .i64 (hiN z), .int .u64 (loN z)] 28)
      by_cases hin : In64 z
      · have HIN := Lib.hid (fun V => int_yes z hin V)
        have HI := Lib.hid hin
        clear hin h128
        by_cases h0 : z = 0
        · have h0b : (z != 0) = false := by simpa using h0
          have HOS := Lib.hid (HO.out.skip HD.out HW.out.1 HW.out.2 (by rw [HZ.out]; exact HI.out) (by rw [HZ.out]; exact h0))
          clear h0
          go_wp2_with fail
          refine (HIN.out _).mono ?_
          rintro e v2 ⟨rfl, hb⟩
          have hB2 := since_step hA1 hb
          have hrg2 := hrg1.kept (grown_of_below hB2) (by simp) (by simp)
          have own2 := own_below hgw hB2
          have hBf := hB1.trans (hB2.mono hB1.size)
          clear hb hrg1 hgw hk1 hA0 hA1
          go_wp2_with fail
          go_roundw
          case rel => exact ⟨_, cnt1, O, g, oc, hrg2, rfl, own2, HOS.out, fun kl h => HL.out kl (by simp at h; exact h.1), by omega, hBf⟩
          case measure => rw [hrg2.left_eq, HLE.out]; exact hlm
        · have h0b : (z != 0) = true := by simpa using h0
          have HOS := Lib.hid (HO.out.take HD.out HW.out.1 HW.out.2 HK2.out HLX.out (by rw [HZ.out]; exact HI.out) (by rw [HZ.out]; exact h0))
          rw [HZ.out] at HOS
          clear h0
          go_wp2_with fail
          refine (HIN.out _).mono ?_
          rintro e v2 ⟨rfl, hb⟩
          have hB2 := since_step hA1 hb
          have hrg2 := hrg1.kept (grown_of_below hB2) (by simp) (by simp)
          have own2 := own_below hgw hB2
          have hBf := hB1.trans (hB2.mono hB1.size)
          have hk2 := hk1.below hb
          obtain ⟨lk, ck⟩ := hk2
          have k0 := ck 0
          have k1 := ck 1
          simp at k0 k1
          have hsz2 := hBf.size
          clear hb hrg1 hgw hk1 hA0 hA1 ck
          go_wp2_with (first
            | (at_builtin; refine wpList_app rfl (.tmp 29) (.tmp 33) rfl EFw rfl rfl (own2.alloc _) (m := 1) (news := [.int .i64 a, .int .i64 cc, .int .i64 z]) rfl (Sl.new_ _ _ _) (Fw.one ⟨a, cc, z⟩) (by unfold maxLen; omega) (by omega) (by simp only [World.size_alloc]; omega) ?_; intro A3 c3 w3 own3 hg3 hb3)
            | fail)
          obtain ⟨g3, rfl⟩ := own_some own3 (by omega)
          have hrg2a := hrg2.alloc (.cells #[.int .i64 a, .int .i64 cc, .int .i64 z] 48)
          have hne := rng_ne hrg2a (own2.alloc (.cells #[.int .i64 a, .int .i64 cc, .int .i64 z] 48))
          have hrg3 := hrg2a.kept hg3 (by simp [Value.ownBlock]; exact fun h => hne.1 h.symm) (by simp [Value.ownBlock]; exact fun h => hne.2 h.symm)
          have hB3 := (since_alloc hBf (.cells #[.int .i64 a, .int .i64 cc, .int .i64 z] 48)).trans hb3
          go_roundw
          case rel =>
            refine ⟨_, cnt1, O ++ [⟨a, cc, z⟩], g3, c3, hrg3, by simp, ?_, HOS.out, fun kl h => HL.out kl (by simp at h; exact h.1), by simp; omega, hB3⟩
            rw [rc_append]
            simpa [rc, Fw.cells] using own3
          case measure => rw [hrg3.left_eq, HLE.out]; exact hlm
      · have HIN := Lib.hid (fun V => int_no z h128 hin V)
        have HRR : Hid (RES = ((7 : Int), [])) := Lib.hid (by rw [← HRES.out, if_pos (fits_no HK2.out (by rw [HZ.out]; exact hin))])
        clear hin h128
        go_wp2_with fail
        refine (HIN.out _).mono ?_
        rintro e v2 ⟨rfl, hb⟩
        have hB2 := since_step hA1 hb
        have hBf := hB1.trans (hB2.mono hB1.size)
        clear hb hrg1 hgw hk1 hA0 hA1
        go_wp2_with fail
        go_ret2
        rw [HRR.out]
        exact ⟨PRes.nil _ _, hBf⟩
end Go.Proofs.Ytldnponbkhgijaa
end
