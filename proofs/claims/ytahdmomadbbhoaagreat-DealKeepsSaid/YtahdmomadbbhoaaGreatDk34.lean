import Derived.Test.YtahdmomadbbhoaaGreatDk17
import Derived.Test.YtahdmomadbbhoaaGreatDk28
import Derived.Test.YtahdmomadbbhoaaGreatDk33
import Derived.DeepKeys4
import Derived.Maps.OwnSet
import Derived.Maps.RangeWalk
import Derived.Maps.Views
import Derived.Ground.SlsfProg
import Derived.Shelf.SlGeneric
import Derived.Shelf.SlSortCmp.WholeK
import Derived.Test.YtahdmomadbbhoaaGreatProg
section
namespace Go.Proofs.YtahdmomadbbhoaaGreat
open Go.ChangeShapes Go.WideShapes Go.ChangeAt Go.RowKit
set_option linter.unusedVariables false
set_option linter.unusedSimpArgs false

def amts (l : List Fw) : List Int := l.map Fw.amt
theorem amts_len (l : List Fw) : (amts l).length = l.length := by simp [amts]
theorem amts_in {l : List Fw} (h : ∀ y ∈ l, In64 y.amt) : All64 (amts l) := by
  intro q hq
  obtain ⟨y, hy, rfl⟩ := List.mem_map.1 hq
  exact h y hy
theorem amts_snoc (l : List Fw) (k : Nat) (h : k < l.length) : amts (l.take (k + 1)) = amts (l.take k) ++ [l[k].amt] := by
  unfold amts
  rw [take_snoc l k h, List.map_append]; rfl
set_option maxHeartbeats 4000000 in
set_option maxRecDepth 100000 in
theorem ptotal_any (A : Option Addr) (cap : Nat) (l : List Fw) (w : World) (hl : l.length ≤ 900000) (hq : ∀ y ∈ l, In64 y.amt) (hs : Sl w A (rc Fw.cells l)) :
    Calls Tryz.prog 20 #[.slice A l.length cap] w fun e w' => e = .returned (.agg #[.int .i64 (hiN (totF l)), .int .u64 (loN (totF l))]) ∧ Below w.heap.size w w' := by
  have HQI := Lib.hid (amts_in hq)
  have HQL := Lib.hid (amts_len l)
  have HQ := Lib.hid hq
  have H128 := Lib.hid (sum64_128 (by have := HQL.out; omega) HQI.out)
  have hB0 := since_alloc (Below.refl _ w) (.cells #[.int .i64 0, .int .u64 0] 56)
  have G0 := T2.new w 0 0 56
  have hs0 := hs.alloc (.cells #[.int .i64 0, .int .u64 0] 56)
  clear hs hq
  go_enter Tryz.func20, Tryz.ntmps20
  go_upto_region 1 with fail
  generalize hWW : w.alloc (.cells #[.int .i64 0, .int .u64 0] 56) = W at *
  clear hWW
  have hWs := hB0.size
  go_wp2_with (first
    | (at_make; refine wpList_mk rfl (.const (.int .i64 0)) (.tmp 9) rfl EWd l.length rfl rfl rfl (by omega) (by unfold maxLen; omega) (Nat.le_refl _) ?_; intro W2 hownW hbW)
    | fail)
  go_loopw [3, 13] (fun out i wr => ∃ (k : Nat) (A' : Option Addr) (c' : Nat), k ≤ l.length ∧ i = .int .i64 k ∧ out = .slice A' (amts (l.take k)).length c' ∧ wr.ownsRow W.heap.size 56 2 (.slice A' (amts (l.take k)).length c') (amts (l.take k)).length (wcells (amts (l.take k))) ∧ Below W.heap.size W wr) (fun _ i _ => l.length - (intOf i).toNat)
  case atStart => exact ⟨0, _, _, by omega, rfl, rfl, by simpa [amts, wcells] using hownW, hbW⟩
  case round =>
    obtain ⟨k, A', c', hk, rfl, rfl, hown, hB⟩ := hrel
    clear hownW hbW
    by_cases hlt : k < l.length
    · obtain ⟨b, o, rfl, hbw, hg⟩ := (hs0.below hB).fw hlt
      have hlk : (k : Int) < (l.length : Int) := by omega
      have hge : (0 : Int) ≤ (k : Int) := by omega
      have HN := Lib.hid (amts_snoc l k hlt)
      have hvq := HQ.out _ (List.getElem_mem hlt)
      have hrl : (amts (l.take k)).length ≤ k := by rw [amts_len, List.length_take]; omega
      generalize l[k] = v at *
      obtain ⟨va, vt, vq⟩ := v
      have HN := Lib.hid HN.out
      simp only at hvq HN
      obtain ⟨g0, g1, g2⟩ := hg
      simp only at g0 g1 g2
      obtain ⟨R, hR⟩ : ∃ R, amts (l.take k) = R := ⟨_, rfl⟩
      rw [hR] at hown HN hrl ⊢
      clear hR
      have HE : Hid (amts (l.take (k + 1)) = R ++ [vq]) := Lib.hid HN.out
      clear HN
      go_wp2_with fail
      refine (wof_any vq hvq _).mono ?_
      rintro e w1 ⟨rfl, hb⟩
      have hv0 := (Below.refl wr.heap.size wr).alloc (Nat.le_refl _) (.cells #[.int .i64 va, .int .i64 vt, .int .i64 vq] 86)
      have hv1 := since_step hv0 hb
      have hB1 := hB.trans (hv1.mono hB.size)
      have hown1 := own_below hown hv1
      have hsz := hB1.size
      clear hb hv0 hv1 g0 g1 g2
      go_wp2_with (first
        | (at_builtin; refine wpList_app rfl (.tmp 17) (.tmp 21) rfl EWd rfl rfl (hown1.alloc _) (m := 1) (news := [.int .i64 (hiN vq), .int .u64 (loN vq)]) rfl (Sl.new_ _ _ _) (wide_one vq) (by unfold maxLen; omega) (by omega) (by simp only [World.size_alloc]; omega) ?_; intro A2 c2 w2 hown2 hg2 hb2)
        | fail)
      go_roundw
      case rel =>
        refine ⟨k + 1, A2, c2, by omega, by go_num, ?_, ?_, (since_alloc hB1 _).trans hb2⟩
        · rw [HE.out]; simp
        · rw [HE.out, wcells_snoc]; simpa using hown2
      case measure => simp [intOf]; omega
    · obtain rfl : k = l.length := by omega
      rw [List.take_length] at hown ⊢
      have HA := wadd_any A' c' (amts l) wr (by have := HQL.out; omega) (fun x hx => (of_in x (HQI.out x hx)).2.2) (Sl.of_own hown)
      rw [wideE_yes H128.out] at HA
      have hB1 := hB0.trans (hB.mono hWs)
      have G1 := T2.below G0 hB
      clear hown
      obtain ⟨z, hz⟩ : ∃ z, (amts l).sum = z := ⟨_, rfl⟩
      rw [hz] at HA
      have HZ := Lib.hid hz
      clear hz
      generalize (amts l).length = n at *
      go_wp2_with fail
      refine HA.mono ?_
      rintro e w1 ⟨rfl, hb⟩
      have hB2 := since_step hB1 hb
      have G2 := T2.below G1 hb
      have hcs := @cell_set
      obtain ⟨c0, c1, c2, f1, f2⟩ := id G2
      clear hb
      go_wp2_with fail
      refine bodyPost_ret (v := .agg #[.int .i64 (hiN z), .int .u64 (loN z)]) ?_ rfl ?_
      · have G3 := T2.alloc (T2.set2 G2 (hiN z) (loN z)) (.cells #[.int .i64 (hiN z), .int .u64 (loN z)] 56)
        obtain ⟨d0, d1, d2, _, _⟩ := G3
        generalize World.alloc _ _ = U at *
        simp [results, Tryz.results20, go_sem, d1, d2]
      · refine ⟨by rw [← HZ.out]; rfl, ?_⟩
        repeat' (first | with_reducible exact hB2 | with_reducible refine Below.setCell ?_ ?_ _ | with_reducible refine since_alloc ?_ _)
        all_goals simp
end Go.Proofs.YtahdmomadbbhoaaGreat
end
section
namespace Go.Proofs.YtahdmomadbbhoaaGreat
open Go.ChangeShapes Go.WideShapes Go.ChangeAt Go.RowKit
open Go.Maps (Keyed IsMap)
open Go.WideMaps
set_option linter.unusedVariables false
set_option linter.unusedSimpArgs false

theorem rowUn : (28 : TypeId) < Tryz.prog.types.size := of_decide_eq_true (by kernel_rfl)
theorem wideUn : (match Tryz.prog.underlying 28 with | some (.array _ _) | some (.struct _) => true | _ => false) = true := by kernel_rfl
set_option maxRecDepth 100000 in
theorem lawUn : KeyLaw Tryz.prog 28 := deep_law_laid laidOut (m := 2) (by omega) rowUn (by kernel_rfl) wideUn
theorem keyed : Keyed Tryz.prog 28 := Keyed.of_law lawUn
def unitV (x : Int × Int) : Value := .agg #[.int .i64 x.1, .int .i64 x.2]
def W64 (n : Int) : Prop := (Lit.int .i64 n).wf = true
def klU (a c : Int) : Lit := .string (keyBytes [.int .i64 a, .int .i64 c])
theorem w64_of {n : Int} (h : In64 n) : W64 n := by
  unfold W64 In64 at *
  simp only [Lit.wf, Bool.and_eq_true, decide_eq_true_eq]
  have h1 : IntKind.i64.min = -9223372036854775808 := by decide
  have h2 : IntKind.i64.max = 9223372036854775807 := by decide
  rw [h1, h2]
  exact h
theorem keyU {a c : Int} (ha : W64 a) (hc : W64 c) : keyOf Tryz.prog 28 (unitV (a, c)) = some (klU a c) := by
  have h1 : Tryz.prog.keyType 28 = true := by kernel_rfl
  obtain ⟨m, hm⟩ : ∃ m, Tryz.prog.types.size = m + 1 := ⟨Tryz.prog.types.size - 1, by kernel_rfl⟩
  have hc1 : Tryz.prog.cellsOf 28 = 2 := by kernel_rfl
  have hc2 : Tryz.prog.cellsOf 3 = 1 := by kernel_rfl
  have hf : (unitV (a, c)).formed Tryz.prog 28 = true := by
    simp [unitV, Value.formed, Tryz.underlying28, hc1]
  have hl : Tryz.prog.keyLits (Tryz.prog.types.size + 1) 28 (unitV (a, c)).cells.toList = some [.int .i64 a, .int .i64 c] := by
    unfold W64 at ha hc
    rw [hm]
    simp [Program.keyLits, Tryz.underlying28, Tryz.underlying3, unitV, Value.cells, hc1, hc2, ha, hc]
  unfold keyOf
  rw [Tryz.underlying28]
  simp only
  rw [h1, hf, hl]
  rfl
set_option maxRecDepth 100000 in
theorem keyU_inv {v : Value} {l : Lit} (h : keyOf Tryz.prog 28 v = some l) : ∃ a c, v = unitV (a, c) ∧ W64 a ∧ W64 c ∧ l = klU a c := by
  obtain ⟨xs, L, rfl, hL, rfl⟩ := keyOf_top wideUn h
  obtain ⟨m, hm⟩ : ∃ m, Tryz.prog.types.size = m + 1 := ⟨Tryz.prog.types.size - 1, by kernel_rfl⟩
  have hc1 : Tryz.prog.cellsOf 28 = 2 := by kernel_rfl
  have hc2 : Tryz.prog.cellsOf 3 = 1 := by kernel_rfl
  rw [hm] at hL
  have hlen : xs.toList.length = 2 := by
    unfold Program.keyLits at hL
    rw [Tryz.underlying28] at hL
    simp only at hL
    split at hL
    · rename_i h1; rw [h1.1, hc1]
    · cases hL
  obtain ⟨ys⟩ := xs
  match ys, hlen, hL with
  | [x, y], _, hL =>
    cases x <;> cases y
    all_goals (simp [Program.keyLits, Tryz.underlying28, Tryz.underlying3, hc1, hc2] at hL)
    rename_i k1 z1 k2 z2 _
    by_cases p : k1 = IntKind.i64 ∧ (Lit.int IntKind.i64 z1).wf = true
    · by_cases q : k2 = IntKind.i64 ∧ (Lit.int IntKind.i64 z2).wf = true
      · rw [if_pos p, if_pos q] at hL
        simp at hL
        obtain ⟨rfl, p2⟩ := p
        obtain ⟨rfl, q2⟩ := q
        subst hL
        exact ⟨z1, z2, rfl, p2, q2, rfl⟩
      · rw [if_pos p, if_neg q] at hL
        simp at hL
    · rw [if_neg p] at hL
      simp at hL
def dW (h l : Int) : DataW Unit := .agg [.lit (.int .i64 h), .lit (.int .u64 l)]
def rW (v : Value) : Option (DataW Unit × List MemPlace) :=
  match v with
  | .agg xs => (match xs.toList with | [.int .i64 h, .int .u64 l] => some (dW h l, []) | _ => none)
  | _ => none
def wdV (x : Int × Int) : Value := .agg #[.int .i64 x.1, .int .u64 x.2]
theorem rW_mk (h l : Int) : rW (wdV (h, l)) = some (dW h l, []) := rfl
theorem rW_inv {v : Value} {y : DataW Unit × List MemPlace} (h : rW v = some y) : ∃ x : Int × Int, v = wdV x ∧ y = (dW x.1 x.2, []) := by
  unfold rW at h
  split at h
  · rename_i xs
    split at h
    · rename_i h1 l1 e
      injection h with h
      refine ⟨(h1, l1), ?_, h.symm⟩
      unfold wdV
      congr 1
      exact Array.ext' e
    · cases h
  · cases h
theorem dW_inj {a b c d : Int} (h : dW a b = dW c d) : a = c ∧ b = d := by
  unfold dW at h
  simp at h
  exact h
def dZ (z : Int) : DataW Unit := dW (hiN z) (loN z)
theorem klU_key {a c : Int} (ha : W64 a) (hc : W64 c) : WideAt.IsKeyLit (klU a c) := keyed.key (keyU ha hc)
theorem klU_inj {a c a' c' : Int} (ha : W64 a) (hc : W64 c) (ha' : W64 a') (hc' : W64 c') (h : klU a c = klU a' c') : a = a' ∧ c = c' := by
  have h1 := keyU ha hc
  have h2 := keyU ha' hc'
  rw [← h] at h2
  have := keyed.inj h1 h2
  simp [unitV] at this
  exact this
structure MapIs (fs : List Fw) (D : DataW Unit) : Prop where
  isMap : IsMap D
  at_ : ∀ a c, W64 a → W64 c → D.atKey (klU a c) (dZ 0) = dZ (sumU fs a c)
  all : ∀ x ∈ fs, ∀ z, D.atKey (klU x.ac x.cl) z = dZ (sumU fs x.ac x.cl)
  keys : ∀ kl, Maps.has D kl = true → ∃ x ∈ fs, kl = klU x.ac x.cl
  has : ∀ x ∈ fs, Maps.has D (klU x.ac x.cl) = true
  w64 : ∀ x ∈ fs, W64 x.ac ∧ W64 x.cl
theorem MapIs.nil : MapIs [] (.map []) where
  isMap := Maps.isMap_empty
  at_ a c _ _ := by
    rw [Maps.atKey_of_not_has rfl]
    rfl
  all x hx := by cases hx
  keys kl h := by simp [Maps.has] at h
  has x hx := by cases hx
  w64 x hx := by cases hx
theorem MapIs.step {fs : List Fw} {D : DataW Unit} (h : MapIs fs D) (x : Fw) (ha : W64 x.ac) (hc : W64 x.cl) : MapIs (fs ++ [x]) (D.put (klU x.ac x.cl) (dZ (sumU fs x.ac x.cl + x.amt))) := by
  have hs1 : sumU (fs ++ [x]) x.ac x.cl = sumU fs x.ac x.cl + x.amt := by
    rw [sumU_append, sumU_cons, if_pos ((unF_iff _ _ _).2 ⟨rfl, rfl⟩)]; simp [sumU]
  have hs2 : ∀ a c, ¬ (x.ac = a ∧ x.cl = c) → sumU (fs ++ [x]) a c = sumU fs a c := fun a c hn => by
    rw [sumU_append, sumU_cons, if_neg (fun h => hn ((unF_iff _ _ _).1 h))]; simp [sumU]
  refine ⟨h.isMap.put _ _, ?_, ?_, ?_, ?_, ?_⟩
  · intro a c wa wc
    by_cases e : x.ac = a ∧ x.cl = c
    · obtain ⟨rfl, rfl⟩ := e
      rw [Maps.atKey_put_same h.isMap (klU_key ha hc), hs1]
    · rw [Maps.atKey_put_other (fun e2 => e (let ⟨p, q⟩ := klU_inj wa wc ha hc e2; ⟨p.symm, q.symm⟩)), h.at_ a c wa wc, hs2 a c e]
  · intro y hy z
    by_cases e : x.ac = y.ac ∧ x.cl = y.cl
    · rw [← e.1, ← e.2, Maps.atKey_put_same h.isMap (klU_key ha hc), hs1]
    · rcases List.mem_append.1 hy with hy | hy
      · have hw := h.w64 y hy
        rw [Maps.atKey_put_other (fun e2 => e (let ⟨p, q⟩ := klU_inj hw.1 hw.2 ha hc e2; ⟨p.symm, q.symm⟩)), h.all y hy z, hs2 _ _ e]
      · obtain rfl : y = x := by simpa using hy
        exact absurd ⟨rfl, rfl⟩ e
  · intro kl hk
    by_cases e : kl = klU x.ac x.cl
    · exact ⟨x, by simp, e⟩
    · rw [Maps.has_put_other e] at hk
      obtain ⟨y, hy, e2⟩ := h.keys kl hk
      exact ⟨y, by simp [hy], e2⟩
  · intro y hy
    by_cases e : klU y.ac y.cl = klU x.ac x.cl
    · rw [e, Maps.has_put_same h.isMap (klU_key ha hc)]
    · rw [Maps.has_put_other e]
      rcases List.mem_append.1 hy with hy | hy
      · exact h.has y hy
      · obtain rfl : y = x := by simpa using hy
        exact absurd rfl e
  · intro y hy
    rcases List.mem_append.1 hy with hy | hy
    · exact h.w64 y hy
    · obtain rfl : y = x := by simpa using hy
      exact ⟨ha, hc⟩
end Go.Proofs.YtahdmomadbbhoaaGreat
end
section
namespace Go.Proofs
open Go.Shelf
def Tryz.sortFlow_ren : Go.Shelf.Ren := ⟨fun | 6 => 120 | 15 => 127 | 14 => 126 | 28 => 137 | 29 => 138 | 20 => 129 | 21 => 130 | 22 => 131 | 23 => 132 | 24 => 133 | 25 => 134 | 26 => 135 | 27 => 136 | 46 => 140 | 47 => 141 | 48 => 142 | 49 => 143 | 50 => 144 | 57 => 145 | n => n, fun | 22 => 23 | 24 => 86 | 25 => 172 | 3 => 3 | 39 => 131 | 0 => 0 | 53 => 186 | 55 => 54 | 4 => 4 | 46 => 179 | 45 => 178 | 50 => 183 | 5 => 5 | 9 => 9 | 66 => 189 | 70 => 193 | 76 => 195 | 77 => 196 | n => n, fun | n => n⟩
theorem Tryz.sortFlow : Go.Proofs.SlLaysF0.n6 Tryz.prog Tryz.sortFlow_ren := {
  mixed := by kernel_rfl
  f6 := ⟨Tryz.f120.name, by decide, Tryz.func120.trans (congrArg some (by kernel_rfl))⟩
  f14 := ⟨Tryz.f126.name, by decide, Tryz.func126.trans (congrArg some (by kernel_rfl))⟩
  f15 := Tryz.func127.trans (congrArg some (by kernel_rfl))
  f20 := ⟨Tryz.f129.name, by decide, Tryz.func129.trans (congrArg some (by kernel_rfl))⟩
  f21 := ⟨Tryz.f130.name, by decide, Tryz.func130.trans (congrArg some (by kernel_rfl))⟩
  f22 := ⟨Tryz.f131.name, by decide, Tryz.func131.trans (congrArg some (by kernel_rfl))⟩
  f23 := ⟨Tryz.f132.name, by decide, Tryz.func132.trans (congrArg some (by kernel_rfl))⟩
  f24 := ⟨Tryz.f133.name, by decide, Tryz.func133.trans (congrArg some (by kernel_rfl))⟩
  f25 := ⟨Tryz.f134.name, by decide, Tryz.func134.trans (congrArg some (by kernel_rfl))⟩
  f26 := ⟨Tryz.f135.name, by decide, Tryz.func135.trans (congrArg some (by kernel_rfl))⟩
  f27 := ⟨Tryz.f136.name, by decide, Tryz.func136.trans (congrArg some (by kernel_rfl))⟩
  f28 := Tryz.func137.trans (congrArg some (by kernel_rfl))
  f29 := Tryz.func138.trans (congrArg some (by kernel_rfl))
  f46 := ⟨Tryz.f140.name, by decide, Tryz.func140.trans (congrArg some (by kernel_rfl))⟩
  f47 := Tryz.func141.trans (congrArg some (by kernel_rfl))
  f48 := Tryz.func142.trans (congrArg some (by kernel_rfl))
  f49 := ⟨Tryz.f143.name, by decide, Tryz.func143.trans (congrArg some (by kernel_rfl))⟩
  f50 := ⟨Tryz.f144.name, by decide, Tryz.func144.trans (congrArg some (by kernel_rfl))⟩
  f57 := ⟨Tryz.f145.name, by decide, Tryz.func145.trans (congrArg some (by kernel_rfl))⟩
  t0 := Tryz.underlying0
  a0 := Tryz.isAgg0
  z0 := Tryz.sizeOf0
  v0 := Tryz.zeroValue0
  t3 := Tryz.underlying3
  a3 := Tryz.isAgg3
  z3 := Tryz.sizeOf3
  v3 := Tryz.zeroValue3
  t4 := Tryz.underlying4
  a4 := Tryz.isAgg4
  z4 := Tryz.sizeOf4
  v4 := Tryz.zeroValue4
  t5 := Tryz.underlying5
  a5 := Tryz.isAgg5
  z5 := Tryz.sizeOf5
  v5 := Tryz.zeroValue5
  t9 := Tryz.underlying9
  a9 := Tryz.isAgg9
  z9 := Tryz.sizeOf9
  v9 := Tryz.zeroValue9
  t22 := Tryz.underlying23
  a22 := Tryz.isAgg23
  z22 := Tryz.sizeOf23
  v22 := Tryz.zeroValue23
  t25 := Tryz.underlying172
  a25 := Tryz.isAgg172
  z25 := Tryz.sizeOf172
  v25 := Tryz.zeroValue172
  t39 := Tryz.underlying131
  a39 := Tryz.isAgg131
  z39 := Tryz.sizeOf131
  v39 := Tryz.zeroValue131
  t45 := Tryz.underlying178
  a45 := Tryz.isAgg178
  z45 := Tryz.sizeOf178
  v45 := Tryz.zeroValue178
  t46 := Tryz.underlying179
  a46 := Tryz.isAgg179
  z46 := Tryz.sizeOf179
  v46 := Tryz.zeroValue179
  t50 := Tryz.underlying183
  a50 := Tryz.isAgg183
  z50 := Tryz.sizeOf183
  v50 := Tryz.zeroValue183
  t53 := Tryz.underlying186
  a53 := Tryz.isAgg186
  z53 := Tryz.sizeOf186
  v53 := Tryz.zeroValue186
  t55 := Tryz.underlying54
  a55 := Tryz.isAgg54
  z55 := Tryz.sizeOf54
  v55 := Tryz.zeroValue54
  t66 := Tryz.underlying189
  a66 := Tryz.isAgg189
  z66 := Tryz.sizeOf189
  v66 := Tryz.zeroValue189
  t70 := Tryz.underlying193
  a70 := Tryz.isAgg193
  z70 := Tryz.sizeOf193
  v70 := Tryz.zeroValue193
  t76 := Tryz.underlying195
  a76 := Tryz.isAgg195
  z76 := Tryz.sizeOf195
  v76 := Tryz.zeroValue195
  t77 := Tryz.underlying196
  a77 := Tryz.isAgg196
  z77 := Tryz.sizeOf196
  v77 := Tryz.zeroValue196 }
end Go.Proofs
end
