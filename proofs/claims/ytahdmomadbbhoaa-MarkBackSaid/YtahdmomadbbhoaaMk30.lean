import Derived.DeepKeys4
import Derived.Maps.OwnSet
import Derived.Maps.RangeWalk
import Derived.Maps.Views
import Derived.Test.YtahdmomadbbhoaaMk29
import Derived.Ground.SlsfProg
import Derived.Shelf.SlGeneric
import Derived.Shelf.SlSortCmp.WholeK
import Derived.Test.YtahdmomadbbhoaaProg
section
namespace Go.Proofs.Ytahdmomadbbhoaa
open Go.ChangeShapes Go.WideShapes Go.ChangeAt Go.RowKit
open Go.Maps (Keyed IsMap)
open Go.WideMaps
set_option linter.unusedVariables false
set_option linter.unusedSimpArgs false

theorem rowUn : (56 : TypeId) < Try.prog.types.size := of_decide_eq_true (by kernel_rfl)
theorem wideUn : (match Try.prog.underlying 56 with | some (.array _ _) | some (.struct _) => true | _ => false) = true := by kernel_rfl
set_option maxRecDepth 100000 in
theorem lawUn : KeyLaw Try.prog 56 := deep_law_laid laidOut (m := 2) (by omega) rowUn (by kernel_rfl) wideUn
theorem keyed : Keyed Try.prog 56 := Keyed.of_law lawUn
def unitV (x : Int × Int) : Value := .agg #[.int .i64 x.1, .int .i64 x.2]
def W64 (n : Int) : Prop := (Lit.int .i64 n).wf = true
def klU (a c : Int) : Lit := .string (keyBytes [.int .i64 a, .int .i64 c])
theorem w64_of {n : Int} (h : In64 n) : W64 n := by
  unfold W64 In64 at *
  simp only [Lit.wf, Bool.and_eq_true, decide_eq_true_eq]
  have h1 : IntKind.i64.min = -9223372036854775808 := by decide
  have h2 : IntKind.i64.max = 9223372036854775807 := by decide
  rw [h1, h2]
  exact h
theorem keyU {a c : Int} (ha : W64 a) (hc : W64 c) : keyOf Try.prog 56 (unitV (a, c)) = some (klU a c) := by
  have h1 : Try.prog.keyType 56 = true := by kernel_rfl
  obtain ⟨m, hm⟩ : ∃ m, Try.prog.types.size = m + 1 := ⟨Try.prog.types.size - 1, by kernel_rfl⟩
  have hc1 : Try.prog.cellsOf 56 = 2 := by kernel_rfl
  have hc2 : Try.prog.cellsOf 3 = 1 := by kernel_rfl
  have hf : (unitV (a, c)).formed Try.prog 56 = true := by
    simp [unitV, Value.formed, Try.underlying56, hc1]
  have hl : Try.prog.keyLits (Try.prog.types.size + 1) 56 (unitV (a, c)).cells.toList = some [.int .i64 a, .int .i64 c] := by
    unfold W64 at ha hc
    rw [hm]
    simp [Program.keyLits, Try.underlying56, Try.underlying3, unitV, Value.cells, hc1, hc2, ha, hc]
  unfold keyOf
  rw [Try.underlying56]
  simp only
  rw [h1, hf, hl]
  rfl
set_option maxRecDepth 100000 in
theorem keyU_inv {v : Value} {l : Lit} (h : keyOf Try.prog 56 v = some l) : ∃ a c, v = unitV (a, c) ∧ W64 a ∧ W64 c ∧ l = klU a c := by
  obtain ⟨xs, L, rfl, hL, rfl⟩ := keyOf_top wideUn h
  obtain ⟨m, hm⟩ : ∃ m, Try.prog.types.size = m + 1 := ⟨Try.prog.types.size - 1, by kernel_rfl⟩
  have hc1 : Try.prog.cellsOf 56 = 2 := by kernel_rfl
  have hc2 : Try.prog.cellsOf 3 = 1 := by kernel_rfl
  rw [hm] at hL
  have hlen : xs.toList.length = 2 := by
    unfold Program.keyLits at hL
    rw [Try.underlying56] at hL
    simp only at hL
    split at hL
    · rename_i h1; rw [h1.1, hc1]
    · cases hL
  obtain ⟨ys⟩ := xs
  match ys, hlen, hL with
  | [x, y], _, hL =>
    cases x <;> cases y
    all_goals (simp [Program.keyLits, Try.underlying56, Try.underlying3, hc1, hc2] at hL)
    rename_i k1 z1 k2 z2 _
    by_cases p : k1 = IntKind.i64 ∧ (Lit.int IntKind.i64 z1).wf = true
    · by_cases q : k2 = IntKind.i64 ∧ (Lit.int IntKind.i64 z2).wf = true
      · rw [if_pos p, if_pos q] at hL
        simp at hL
        obtain ⟨rfl, p2⟩ := p
        obtain ⟨rfl, q2⟩ := q
        subst hL
        exact ⟨z1, z2, rfl, p2, q2, rfl⟩
      · rw [if_pos p, if_neg q] at hL
        simp at hL
    · rw [if_neg p] at hL
      simp at hL
def dW (h l : Int) : DataW Unit := .agg [.lit (.int .i64 h), .lit (.int .u64 l)]
def rW (v : Value) : Option (DataW Unit × List MemPlace) :=
  match v with
  | .agg xs => (match xs.toList with | [.int .i64 h, .int .u64 l] => some (dW h l, []) | _ => none)
  | _ => none
def wdV (x : Int × Int) : Value := .agg #[.int .i64 x.1, .int .u64 x.2]
theorem rW_mk (h l : Int) : rW (wdV (h, l)) = some (dW h l, []) := rfl
theorem rW_inv {v : Value} {y : DataW Unit × List MemPlace} (h : rW v = some y) : ∃ x : Int × Int, v = wdV x ∧ y = (dW x.1 x.2, []) := by
  unfold rW at h
  split at h
  · rename_i xs
    split at h
    · rename_i h1 l1 e
      injection h with h
      refine ⟨(h1, l1), ?_, h.symm⟩
      unfold wdV
      congr 1
      exact Array.ext' e
    · cases h
  · cases h
theorem dW_inj {a b c d : Int} (h : dW a b = dW c d) : a = c ∧ b = d := by
  unfold dW at h
  simp at h
  exact h
def dZ (z : Int) : DataW Unit := dW (hiN z) (loN z)
theorem klU_key {a c : Int} (ha : W64 a) (hc : W64 c) : WideAt.IsKeyLit (klU a c) := keyed.key (keyU ha hc)
theorem klU_inj {a c a' c' : Int} (ha : W64 a) (hc : W64 c) (ha' : W64 a') (hc' : W64 c') (h : klU a c = klU a' c') : a = a' ∧ c = c' := by
  have h1 := keyU ha hc
  have h2 := keyU ha' hc'
  rw [← h] at h2
  have := keyed.inj h1 h2
  simp [unitV] at this
  exact this
structure MapIs (fs : List Fw) (D : DataW Unit) : Prop where
  isMap : IsMap D
  at_ : ∀ a c, W64 a → W64 c → D.atKey (klU a c) (dZ 0) = dZ (sumU fs a c)
  all : ∀ x ∈ fs, ∀ z, D.atKey (klU x.ac x.cl) z = dZ (sumU fs x.ac x.cl)
  keys : ∀ kl, Maps.has D kl = true → ∃ x ∈ fs, kl = klU x.ac x.cl
  has : ∀ x ∈ fs, Maps.has D (klU x.ac x.cl) = true
  w64 : ∀ x ∈ fs, W64 x.ac ∧ W64 x.cl
theorem MapIs.nil : MapIs [] (.map []) where
  isMap := Maps.isMap_empty
  at_ a c _ _ := by
    rw [Maps.atKey_of_not_has rfl]
    rfl
  all x hx := by cases hx
  keys kl h := by simp [Maps.has] at h
  has x hx := by cases hx
  w64 x hx := by cases hx
theorem MapIs.step {fs : List Fw} {D : DataW Unit} (h : MapIs fs D) (x : Fw) (ha : W64 x.ac) (hc : W64 x.cl) : MapIs (fs ++ [x]) (D.put (klU x.ac x.cl) (dZ (sumU fs x.ac x.cl + x.amt))) := by
  have hs1 : sumU (fs ++ [x]) x.ac x.cl = sumU fs x.ac x.cl + x.amt := by
    rw [sumU_append, sumU_cons, if_pos ((unF_iff _ _ _).2 ⟨rfl, rfl⟩)]; simp [sumU]
  have hs2 : ∀ a c, ¬ (x.ac = a ∧ x.cl = c) → sumU (fs ++ [x]) a c = sumU fs a c := fun a c hn => by
    rw [sumU_append, sumU_cons, if_neg (fun h => hn ((unF_iff _ _ _).1 h))]; simp [sumU]
  refine ⟨h.isMap.put _ _, ?_, ?_, ?_, ?_, ?_⟩
  · intro a c wa wc
    by_cases e : x.ac = a ∧ x.cl = c
    · obtain ⟨rfl, rfl⟩ := e
      rw [Maps.atKey_put_same h.isMap (klU_key ha hc), hs1]
    · rw [Maps.atKey_put_other (fun e2 => e (let ⟨p, q⟩ := klU_inj wa wc ha hc e2; ⟨p.symm, q.symm⟩)), h.at_ a c wa wc, hs2 a c e]
  · intro y hy z
    by_cases e : x.ac = y.ac ∧ x.cl = y.cl
    · rw [← e.1, ← e.2, Maps.atKey_put_same h.isMap (klU_key ha hc), hs1]
    · rcases List.mem_append.1 hy with hy | hy
      · have hw := h.w64 y hy
        rw [Maps.atKey_put_other (fun e2 => e (let ⟨p, q⟩ := klU_inj hw.1 hw.2 ha hc e2; ⟨p.symm, q.symm⟩)), h.all y hy z, hs2 _ _ e]
      · obtain rfl : y = x := by simpa using hy
        exact absurd ⟨rfl, rfl⟩ e
  · intro kl hk
    by_cases e : kl = klU x.ac x.cl
    · exact ⟨x, by simp, e⟩
    · rw [Maps.has_put_other e] at hk
      obtain ⟨y, hy, e2⟩ := h.keys kl hk
      exact ⟨y, by simp [hy], e2⟩
  · intro y hy
    by_cases e : klU y.ac y.cl = klU x.ac x.cl
    · rw [e, Maps.has_put_same h.isMap (klU_key ha hc)]
    · rw [Maps.has_put_other e]
      rcases List.mem_append.1 hy with hy | hy
      · exact h.has y hy
      · obtain rfl : y = x := by simpa using hy
        exact absurd rfl e
  · intro y hy
    rcases List.mem_append.1 hy with hy | hy
    · exact h.w64 y hy
    · obtain rfl : y = x := by simpa using hy
      exact ⟨ha, hc⟩
end Go.Proofs.Ytahdmomadbbhoaa
end
section
namespace Go.Proofs
open Go.Shelf
def Try.sortFlow_ren : Go.Shelf.Ren := ⟨fun | 6 => 83 | 15 => 89 | 14 => 88 | 28 => 99 | 29 => 100 | 20 => 91 | 21 => 92 | 22 => 93 | 23 => 94 | 24 => 95 | 25 => 96 | 26 => 97 | 27 => 98 | 46 => 101 | 47 => 102 | 48 => 103 | 49 => 104 | 50 => 105 | 57 => 106 | n => n, fun | 22 => 25 | 24 => 76 | 25 => 128 | 3 => 3 | 39 => 105 | 0 => 0 | 53 => 145 | 55 => 60 | 4 => 4 | 46 => 138 | 45 => 137 | 50 => 142 | 5 => 5 | 9 => 9 | 66 => 147 | 70 => 151 | 76 => 153 | 77 => 154 | n => n, fun | n => n⟩
theorem Try.sortFlow : Go.Proofs.SlLaysF0.n6 Try.prog Try.sortFlow_ren := {
  mixed := by kernel_rfl
  f6 := ⟨Try.f83.name, by decide, Try.func83.trans (congrArg some (by kernel_rfl))⟩
  f14 := ⟨Try.f88.name, by decide, Try.func88.trans (congrArg some (by kernel_rfl))⟩
  f15 := Try.func89.trans (congrArg some (by kernel_rfl))
  f20 := ⟨Try.f91.name, by decide, Try.func91.trans (congrArg some (by kernel_rfl))⟩
  f21 := ⟨Try.f92.name, by decide, Try.func92.trans (congrArg some (by kernel_rfl))⟩
  f22 := ⟨Try.f93.name, by decide, Try.func93.trans (congrArg some (by kernel_rfl))⟩
  f23 := ⟨Try.f94.name, by decide, Try.func94.trans (congrArg some (by kernel_rfl))⟩
  f24 := ⟨Try.f95.name, by decide, Try.func95.trans (congrArg some (by kernel_rfl))⟩
  f25 := ⟨Try.f96.name, by decide, Try.func96.trans (congrArg some (by kernel_rfl))⟩
  f26 := ⟨Try.f97.name, by decide, Try.func97.trans (congrArg some (by kernel_rfl))⟩
  f27 := ⟨Try.f98.name, by decide, Try.func98.trans (congrArg some (by kernel_rfl))⟩
  f28 := Try.func99.trans (congrArg some (by kernel_rfl))
  f29 := Try.func100.trans (congrArg some (by kernel_rfl))
  f46 := ⟨Try.f101.name, by decide, Try.func101.trans (congrArg some (by kernel_rfl))⟩
  f47 := Try.func102.trans (congrArg some (by kernel_rfl))
  f48 := Try.func103.trans (congrArg some (by kernel_rfl))
  f49 := ⟨Try.f104.name, by decide, Try.func104.trans (congrArg some (by kernel_rfl))⟩
  f50 := ⟨Try.f105.name, by decide, Try.func105.trans (congrArg some (by kernel_rfl))⟩
  f57 := ⟨Try.f106.name, by decide, Try.func106.trans (congrArg some (by kernel_rfl))⟩
  t0 := Try.underlying0
  a0 := Try.isAgg0
  z0 := Try.sizeOf0
  v0 := Try.zeroValue0
  t3 := Try.underlying3
  a3 := Try.isAgg3
  z3 := Try.sizeOf3
  v3 := Try.zeroValue3
  t4 := Try.underlying4
  a4 := Try.isAgg4
  z4 := Try.sizeOf4
  v4 := Try.zeroValue4
  t5 := Try.underlying5
  a5 := Try.isAgg5
  z5 := Try.sizeOf5
  v5 := Try.zeroValue5
  t9 := Try.underlying9
  a9 := Try.isAgg9
  z9 := Try.sizeOf9
  v9 := Try.zeroValue9
  t22 := Try.underlying25
  a22 := Try.isAgg25
  z22 := Try.sizeOf25
  v22 := Try.zeroValue25
  t25 := Try.underlying128
  a25 := Try.isAgg128
  z25 := Try.sizeOf128
  v25 := Try.zeroValue128
  t39 := Try.underlying105
  a39 := Try.isAgg105
  z39 := Try.sizeOf105
  v39 := Try.zeroValue105
  t45 := Try.underlying137
  a45 := Try.isAgg137
  z45 := Try.sizeOf137
  v45 := Try.zeroValue137
  t46 := Try.underlying138
  a46 := Try.isAgg138
  z46 := Try.sizeOf138
  v46 := Try.zeroValue138
  t50 := Try.underlying142
  a50 := Try.isAgg142
  z50 := Try.sizeOf142
  v50 := Try.zeroValue142
  t53 := Try.underlying145
  a53 := Try.isAgg145
  z53 := Try.sizeOf145
  v53 := Try.zeroValue145
  t55 := Try.underlying60
  a55 := Try.isAgg60
  z55 := Try.sizeOf60
  v55 := Try.zeroValue60
  t66 := Try.underlying147
  a66 := Try.isAgg147
  z66 := Try.sizeOf147
  v66 := Try.zeroValue147
  t70 := Try.underlying151
  a70 := Try.isAgg151
  z70 := Try.sizeOf151
  v70 := Try.zeroValue151
  t76 := Try.underlying153
  a76 := Try.isAgg153
  z76 := Try.sizeOf153
  v76 := Try.zeroValue153
  t77 := Try.underlying154
  a77 := Try.isAgg154
  z77 := Try.sizeOf154
  v77 := Try.zeroValue154 }
end Go.Proofs
end
section
namespace Go.Proofs.Ytahdmomadbbhoaa
open Go.ChangeShapes Go.WideShapes Go.ChangeAt Go.RowKit
open Go.Sort (grow alloc_eq_grow grow_grow HoldsK cell?_grow frozen?_grow flatK PermIn SortedIn SWO)
open Go.Maps (Keyed IsMap)
set_option linter.unusedVariables false
set_option linter.unusedSimpArgs false

instance : Inhabited Fw := ⟨Fw.zero⟩
def cfF (x y : Fw) : Int := if ahF x y = true then -1 else 1
theorem lt_cfF (x y : Fw) : ltOf cfF x y = ahF x y := by
  unfold ltOf cfF
  cases ahF x y <;> simp
theorem swoF : SWO (ltOf cfF) where
  irrefl x := by
    rw [lt_cfF]
    cases e : ahF x x with
    | false => rfl
    | true => have := ordF.asy _ _ e; rw [e] at this; cases this
  trans x y z h1 h2 := by rw [lt_cfF] at *; exact ordF.tr _ _ _ h1 h2
  ntrans x y z h1 h2 := by
    rw [lt_cfF] at *
    simp only [ahF, keyLt_not] at *
    omega
theorem below_sortF {α : Type} [Inhabited α] {B : Nat} {w0 W : World} (h : Below B w0 W) (enc : α → List Value) (k blk off m : Nat) (d : Array α) (os : Array Obj) (hb : B ≤ blk) (hlt : blk < W.heap.size) :
    Below B w0 (sortWorldK enc k W blk off m d os) := by
  refine h.trans ⟨rfl, rfl, rfl, ?_, ?_⟩
  · simp [sortWorldK, grow, Go.Sort.putRowK, Go.Sort.putRow, Go.Sort.mapBlock, Go.Sort.ahead]
  · intro i hi
    show ((W.heap.modify blk _) ++ os)[i]? = _
    rw [Array.getElem?_append_left (by simp; omega), Array.getElem?_modify, if_neg (by omega)]
set_option maxHeartbeats 1000000 in
set_option maxRecDepth 100000 in
theorem aless_gr (ua uc va vc : Int) (w : World) : Calls Try.prog 66 #[.agg #[.int .i64 ua, .int .i64 uc], .agg #[.int .i64 va, .int .i64 vc]] w fun e w' => e = .returned (.bool (keyLt ua uc va vc)) ∧ ∃ os', w' = grow w os' := by
  by_cases h1 : ua < va
  · have HE : Hid (keyLt ua uc va vc = true) := Lib.hid (by simp [keyLt, h1])
    go_enter Try.func66, Try.ntmps66
    go_wp2_with fail
    go_ret
    exact ⟨retB HE.out.symm, _, by rw [alloc_eq_grow, alloc_eq_grow, grow_grow]⟩
  by_cases h2 : ua = va
  · subst h2
    have HE : Hid (keyLt ua uc ua vc = decide (uc < vc)) := Lib.hid (by simp [keyLt])
    go_enter Try.func66, Try.ntmps66
    go_wp2_with fail
    go_ret
    exact ⟨retB HE.out.symm, _, by rw [alloc_eq_grow, alloc_eq_grow, grow_grow]⟩
  · have HE : Hid (keyLt ua uc va vc = false) := Lib.hid (decide_eq_false (by omega))
    have h2b : (ua == va) = false := by simpa using h2
    clear h2
    go_enter Try.func66, Try.ntmps66
    go_wp2_with fail
    go_ret
    exact ⟨retB HE.out.symm, _, by rw [alloc_eq_grow, alloc_eq_grow, grow_grow]⟩
set_option maxHeartbeats 1000000 in
set_option maxRecDepth 100000 in
theorem pahead_gr (x y : Fw) (w : World) : Calls Try.prog 45 #[x.val, y.val] w fun e w' => e = .returned (.bool (ahF x y)) ∧ ∃ os', w' = grow w os' := by
  obtain ⟨ua, uc, uq⟩ := x
  obtain ⟨va, vc, vq⟩ := y
  unfold Fw.val ahF
  simp only
  go_enter Try.func45, Try.ntmps45
  go_wp2_with fail
  refine (aless_gr ua uc va vc _).mono ?_
  rintro e w1 ⟨rfl, os1, rfl⟩
  go_wp2_with fail
  go_ret
  exact ⟨rfl, _, by rw [alloc_eq_grow, alloc_eq_grow, grow_grow, grow_grow]⟩
set_option maxHeartbeats 1000000 in
set_option maxRecDepth 100000 in
theorem pcmp_any (x y : Fw) (w : World) : Calls Try.prog 84 #[x.val, y.val] w fun e w' => e = .returned (.int .i64 (cfF x y)) ∧ ∃ q os', w' = grow (w.drewN q) os' := by
  have HA := Lib.hid (fun V => pahead_gr x y V)
  unfold cfF
  obtain ⟨ua, uc, uq⟩ := x
  obtain ⟨va, vc, vq⟩ := y
  unfold Fw.val at *
  simp only at *
  cases hq : ahF ⟨ua, uc, uq⟩ ⟨va, vc, vq⟩ with
  | true =>
    rw [hq] at HA
    clear hq
    go_enter Try.func84, Try.ntmps84
    go_wp2_with fail
    refine (HA.out _).mono ?_
    rintro e w1 ⟨rfl, os1, rfl⟩
    go_wp2_with fail
    go_ret
    exact ⟨by simp, 0, _, by rw [alloc_eq_grow, alloc_eq_grow, grow_grow, grow_grow]; rfl⟩
  | false =>
    rw [hq] at HA
    clear hq
    go_enter Try.func84, Try.ntmps84
    go_wp2_with fail
    refine (HA.out _).mono ?_
    rintro e w1 ⟨rfl, os1, rfl⟩
    go_wp2_with fail
    go_ret
    exact ⟨by simp, 0, _, by rw [alloc_eq_grow, alloc_eq_grow, grow_grow, grow_grow]; rfl⟩
theorem sorted_flows {d d' : Array Fw} (hp : PermIn 0 d.size d d') (hs : SortedIn (ltOf cfF) 0 d.size d') (hd : d.toList.Pairwise (fun x y => ¬ (x.ac = y.ac ∧ x.cl = y.cl))) :
    d'.size = d.size ∧ (∀ x, x ∈ d'.toList ↔ x ∈ d.toList) ∧ d'.toList.Pairwise (fun a b => ahF a b = true) := by
  obtain ⟨h1, _, h3⟩ := hp
  have e1 : (d'.extract 0 d.size).toList = d'.toList := by rw [← h1]; simp
  have e2 : (d.extract 0 d.size).toList = d.toList := by simp
  rw [e1, e2] at h3
  refine ⟨h1, fun x => h3.mem_iff, ?_⟩
  have hd' : d'.toList.Pairwise (fun x y => ¬ (x.ac = y.ac ∧ x.cl = y.cl)) := (h3.symm.pairwise_iff (fun {x y} h h2 => h ⟨h2.1.symm, h2.2.symm⟩)).1 hd
  rw [List.pairwise_iff_getElem] at hd' ⊢
  intro i j hi hj hij
  have hi' : i < d'.size := by simpa using hi
  have hj' : j < d'.size := by simpa using hj
  have h := hs i j (Nat.zero_le _) hij (by omega)
  rw [getElem!_pos d' i hi', getElem!_pos d' j hj', lt_cfF] at h
  have hn := hd' i j hi hj hij
  simp only [Array.getElem_toList] at hn ⊢
  simp only [ahF, keyLt_not, keyLt_iff] at h ⊢
  omega
set_option maxHeartbeats 1000000 in
theorem sortF_any (B g c : Nat) (O : List Fw) (W : World) (ho : O.length ≤ 100000) (hd : O.Pairwise (fun x y => ¬ (x.ac = y.ac ∧ x.cl = y.cl))) (hown : W.ownsRow B 76 3 (.slice (some ⟨g, 0, none⟩) O.length c) O.length (rc Fw.cells O)) :
    Calls Try.prog 83 #[.slice (some ⟨g, 0, none⟩) O.length c, .func (.func 84) #[] #[]] W fun e w' =>
      e = .returned (.tuple #[]) ∧ (∃ R : List Fw, R.length = O.length ∧ (∀ x, x ∈ R ↔ x ∈ O) ∧ R.Pairwise (fun a b => ahF a b = true) ∧ Sl w' (some ⟨g, 0, none⟩) (rc Fw.cells R)) ∧ (∀ w0, Below B w0 W → Below B w0 w') := by
  obtain ⟨hBg, hgW, hfz, hcells⟩ := own_slice_g hown
  have hsz : O.toArray.size = O.length := by simp
  have hfl : ∀ j, j < (flatK Fw.cells 3 O.toArray).size → (rc Fw.cells O)[j]? = some (flatK Fw.cells 3 O.toArray)[j]! := by
    intro j hj
    rw [Go.Sort.size_flatK] at hj
    rw [Go.Sort.get_flatK _ _ _ _ hj]
    have hj3 : j / 3 < O.length := by rw [hsz] at hj; omega
    have := rc_at Fw.len O (j / 3) hj3 (j % 3) (by omega)
    rw [show j / 3 * 3 + j % 3 = j by omega] at this
    rw [this, getElem!_pos O.toArray (j / 3) (by rw [hsz]; exact hj3)]
    have hl : (Fw.cells O[j / 3]).length = 3 := Fw.len _
    rw [List.getElem?_eq_getElem (by rw [hl]; omega)]
    simp [getElem!_pos, hl, Nat.mod_lt]
  have hH : HoldsK Fw.cells 3 W g 0 O.toArray := by
    intro j hj
    rw [Nat.zero_add]
    exact ⟨hcells j _ (hfl j hj), hfz j⟩
  have eg : ∀ args w, (callFunc 84 args).run Try.prog w = .ok (.enter 84 args) w := enters_of Try.func84 (by kernel_rfl) rfl
  have hcon := AnyQ.slices_SortFunc Try.sortFlow 3 Try.isAgg76 Try.sizeOf76 Fw.cells (fun x => Fw.len x) (fun x v hv => Fw.one x v hv) cfF swoF 84 #[] g 0 c O.toArray W eg
    (fun _ _ _ _ x y => pcmp_any x y _) hH hgW (by rw [hsz]; omega)
  change Calls Try.prog 83 _ _ _ at hcon
  rw [hsz] at hcon
  refine hcon.mono ?_
  rintro e w' ⟨rfl, d', n, os, hp, hs, rfl⟩
  obtain ⟨q1, q2, q3⟩ := sorted_flows (d := O.toArray) (by rw [hsz]; exact hp) (by rw [hsz]; exact hs) (by simpa using hd)
  have hH' := holdsK_sortWorldK Fw.cells 3 W g 0 n O.toArray d' os hgW hH (by rw [hsz, q1, hsz])
  refine ⟨rfl, ⟨d'.toList, by simpa [hsz] using q1, fun x => by simpa using q2 x, q3, ?_⟩, fun w0 hb => below_sortF hb _ _ _ _ _ _ _ hBg hgW⟩
  intro _
  refine ⟨g, 0, rfl, fun j u hu => ?_⟩
  rw [Nat.zero_add]
  have hjl : j < d'.size * 3 := by
    have h1 := (List.getElem?_eq_some_iff.1 hu).1
    rw [rc_length Fw.len] at h1
    simpa using h1
  have hi : j / 3 < d'.size := by omega
  have h1 := (hH'.cell (i := j / 3) (c := j % 3) hi (by omega)).1
  rw [Nat.zero_add, show j / 3 * 3 + j % 3 = j by omega] at h1
  rw [h1, getElem!_pos d' (j / 3) hi]
  have h2 := rc_at Fw.len d'.toList (j / 3) (by simpa using hi) (j % 3) (by omega)
  rw [show j / 3 * 3 + j % 3 = j by omega, hu] at h2
  have hl : (Fw.cells d'[j / 3]).length = 3 := Fw.len _
  simp only [Array.getElem_toList] at h2
  rw [List.getElem?_eq_getElem (by rw [hl]; omega)] at h2
  injection h2 with h2
  rw [h2]
  simp [getElem!_pos, hl, Nat.mod_lt]
end Go.Proofs.Ytahdmomadbbhoaa
end
