import Derived.Test.YtahdmomadbbhoaaGreatDg36
import Derived.Deep.RegionLaw
import Derived.Lib.SliceRun
import Derived.Test.YtahdmomadbbhoaaGreatDg02
import Derived.Deep.DeepCutAuto
import Derived.Deep.RegionHeld3
import Derived.Test.YtahdmomadbbhoaaGreatDg03
import Derived.BigQuiet
import Derived.Deep.CutBlock
import Derived.Deep.CutRange
import Derived.Test.YtahdmomadbbhoaaGreatDg11
import Derived.Test.YtahdmomadbbhoaaGreatDg12
import Derived.Test.YtahdmomadbbhoaaGreatDg13
import Derived.Test.YtahdmomadbbhoaaGreatDg18
import Derived.DeepKeys4
import Derived.Maps.OwnSet
import Derived.Maps.RangeWalk
import Derived.Maps.Views
import Derived.Test.YtahdmomadbbhoaaGreatDg30
import Derived.Ground.SlsfProg
import Derived.Shelf.SlGeneric
import Derived.Shelf.SlSortCmp.WholeK
import Derived.Test.YtahdmomadbbhoaaGreatProg
section
namespace Go.Proofs.YtahdmomadbbhoaaGreat
open Go.ChangeShapes Go.WideShapes Go.ChangeAt Go.RowKit
set_option linter.unusedVariables false
set_option linter.unusedSimpArgs false

theorem getG_nil (t : Int) : getG [] t = 0 := rfl
theorem movP_facts {M : List Lg} {cs R : List Pc} {fa fc ta tc : Int} (h : moveP cs fa fc ta tc M = (0, R)) : ∃ X, chgHR (fun m => addL [m, negG M]) cs fa fc = (0, X) ∧ chgHR (fun m => addL [m, M]) X ta tc = (0, R) := by
  unfold moveP at h
  split at h
  · injection h with h1; cases h1
  · split at h
    · rename_i hn
      injection h with h1; exact absurd h1 hn
    · rename_i hn
      have hn : (negR M).1 = 0 := by simpa using hn
      rw [(negR_ok hn).2.1] at h
      split at h
      · rename_i hm
        injection h with h1; exact absurd h1 hm
      · rename_i hm
        exact ⟨_, Prod.ext (by simpa using hm) rfl, h⟩
theorem movP_is {M : List Lg} {cs R : List Pc} {fa fc ta tc : Int} (h : moveP cs fa fc ta tc M = (0, R)) : isH cs = true ∧ isH R = true ∧ ((∀ g ∈ cs, ∀ y ∈ g.L, In64 y.qty) → ∀ g ∈ R, ∀ y ∈ g.L, In64 y.qty) ∧ R.length ≤ cs.length + 2 ∧ (∀ n : Nat, 8 ≤ n → (∀ g ∈ cs, g.L.length ≤ n) → ∀ g ∈ R, g.L.length ≤ n) := by
  obtain ⟨X, h1, h2⟩ := movP_facts h
  obtain ⟨a1, a2, a3, a4⟩ := shift_is h1
  obtain ⟨b1, b2, b3, b4⟩ := shift_is h2
  exact ⟨(chg_factsP h1).1, b1, fun h => b2 (a2 h), by omega, fun n hn hc => b4 n hn (a4 n hn hc)⟩
end Go.Proofs.YtahdmomadbbhoaaGreat
end
section
namespace Go.Proofs.YtahdmomadbbhoaaGreat
open Go.ChangeShapes Go.WideShapes Go.ChangeAt Go.RowKit
set_option linter.unusedVariables false
set_option linter.unusedSimpArgs false

structure Lt where
  (ast : Int) (tag : Int) (qty : Int)
deriving DecidableEq
def Lt.cells (g : Lt) : List Value := [.int .i64 g.ast, .int .i64 g.tag, .int .i64 g.qty]
def Lt.val (g : Lt) : Value := .agg #[.int .i64 g.ast, .int .i64 g.tag, .int .i64 g.qty]
def Lt.zero : Lt := ⟨0, 0, 0⟩
theorem Lt.len (g : Lt) : g.cells.length = 3 := rfl
theorem Lt.one (g : Lt) : ∀ u ∈ g.cells, u.oneCell' = true := by
  intro u hu
  simp only [Lt.cells, List.mem_cons, List.not_mem_nil, or_false] at hu
  rcases hu with h | h | h <;> subst h <;> rfl
def Lt.at (g : Lt) (w : World) (b o : Nat) : Prop :=
  w.cell? ⟨b, o, none⟩ = some (.int .i64 g.ast) ∧ w.cell? ⟨b, o + 1, none⟩ = some (.int .i64 g.tag) ∧ w.cell? ⟨b, o + 2, none⟩ = some (.int .i64 g.qty)
theorem Lt.at_of {w : World} {b o : Nat} {g : Lt} (h : ∀ j u, g.cells[j]? = some u → w.cell? ⟨b, o + j, none⟩ = some u) : g.at w b o :=
  ⟨h 0 _ rfl, h 1 _ rfl, h 2 _ rfl⟩
theorem Lt.at_keep {w w' : World} {b o : Nat} {g : Lt} (h : g.at w b o) (k : ∀ i, w'.cell? ⟨b, i, none⟩ = w.cell? ⟨b, i, none⟩) : g.at w' b o := by
  unfold Lt.at at *
  simp only [k]
  exact h
theorem Sl.lt {w : World} {A : Option Addr} {l : List Lt} (h : Sl w A (rc Lt.cells l)) {k : Nat} (hk : k < l.length) : ∃ b o, A = some ⟨b, o, none⟩ ∧ b < w.heap.size ∧ l[k].at w b (o + k * 3) := by
  obtain ⟨b, o, hA, hb, hc⟩ := Sl.elem (m := 3) Lt.len (by decide) h hk
  exact ⟨b, o, hA, hb, Lt.at_of hc⟩
def Lt.Tells (F : Nat) (caps : Array Value) (p : Lt → Bool) (B : Nat) (w : World) : Prop :=
  ∀ (g : Lt) (W : World), Below B w W → Calls Tryz.prog F (#[g.val] ++ caps) W fun e w' => e = .returned (.bool (p g)) ∧ Below W.heap.size W w'
theorem Lt.Tells.below {F : Nat} {caps : Array Value} {p : Lt → Bool} {B : Nat} {w w1 : World} (h : Lt.Tells F caps p B w) (hb : Below B w w1) {C : Nat} (hC : B ≤ C) : Lt.Tells F caps p C w1 :=
  fun g W hW => h g W (hb.trans (hW.mono hC))
end Go.Proofs.YtahdmomadbbhoaaGreat
end
section
namespace Go.Proofs.YtahdmomadbbhoaaGreat
open Go.ChangeShapes Go.WideShapes Go.ChangeAt Go.RowKit
set_option linter.unusedVariables false
set_option linter.unusedSimpArgs false

def Lt.Tells2 (F : Nat) (caps : Array Value) (ah : Lt → Lt → Bool) (B : Nat) (w : World) : Prop :=
  ∀ (a b : Lt) (W : World), Below B w W → Calls Tryz.prog F (#[a.val, b.val] ++ caps) W fun e w' => e = .returned (.bool (ah a b)) ∧ Below W.heap.size W w'
theorem Lt.Tells2.below {F : Nat} {caps : Array Value} {ah : Lt → Lt → Bool} {B : Nat} {w w1 : World} (h : Lt.Tells2 F caps ah B w) (hb : Below B w w1) {C : Nat} (hC : B ≤ C) : Lt.Tells2 F caps ah C w1 :=
  fun a b W hW => h a b W (hb.trans (hW.mono hC))
end Go.Proofs.YtahdmomadbbhoaaGreat
end
section
namespace Go.Proofs.YtahdmomadbbhoaaGreat
open Go.ChangeShapes Go.WideShapes Go.ChangeAt Go.RowKit
set_option linter.unusedVariables false
set_option linter.unusedSimpArgs false

def ltL (x y : Lt) : Prop := x.ast < y.ast ∨ (x.ast = y.ast ∧ x.tag < y.tag)
instance (x y : Lt) : Decidable (ltL x y) := by unfold ltL; infer_instance
end Go.Proofs.YtahdmomadbbhoaaGreat
end
section
namespace Go.Proofs.YtahdmomadbbhoaaGreat
open Go.ChangeShapes Go.WideShapes Go.ChangeAt Go.RowKit
set_option linter.unusedVariables false
set_option linter.unusedSimpArgs false

theorem sum64_128 {l : List Int} (hl : l.length ≤ 1000000) (h : All64 l) : In128 l.sum := by
  have key : ∀ m : List Int, All64 m → -(m.length : Int) * 9223372036854775808 ≤ m.sum ∧ m.sum ≤ (m.length : Int) * 9223372036854775808 := by
    intro m
    induction m with
    | nil => intro _; simp
    | cons a m ih =>
      intro hm
      have h1 := ih (fun x hx => hm x (by simp [hx]))
      have h2 := hm a (by simp)
      unfold In64 at h2
      simp only [List.length_cons, List.sum_cons]
      omega
  have := key l h
  unfold In128
  omega
end Go.Proofs.YtahdmomadbbhoaaGreat
end
section
namespace Go.Proofs.YtahdmomadbbhoaaGreat
open Go.ChangeShapes Go.WideShapes Go.ChangeAt Go.RowKit
open Go.Maps (Keyed IsMap)
open Go.WideMaps
set_option linter.unusedVariables false
set_option linter.unusedSimpArgs false

theorem rowUn : (28 : TypeId) < Tryz.prog.types.size := of_decide_eq_true (by kernel_rfl)
theorem wideUn : (match Tryz.prog.underlying 28 with | some (.array _ _) | some (.struct _) => true | _ => false) = true := by kernel_rfl
set_option maxRecDepth 100000 in
theorem lawUn : KeyLaw Tryz.prog 28 := deep_law_laid laidOut (m := 2) (by omega) rowUn (by kernel_rfl) wideUn
theorem keyed : Keyed Tryz.prog 28 := Keyed.of_law lawUn
def unitV (x : Int × Int) : Value := .agg #[.int .i64 x.1, .int .i64 x.2]
def W64 (n : Int) : Prop := (Lit.int .i64 n).wf = true
def klU (a c : Int) : Lit := .string (keyBytes [.int .i64 a, .int .i64 c])
theorem w64_of {n : Int} (h : In64 n) : W64 n := by
  unfold W64 In64 at *
  simp only [Lit.wf, Bool.and_eq_true, decide_eq_true_eq]
  have h1 : IntKind.i64.min = -9223372036854775808 := by decide
  have h2 : IntKind.i64.max = 9223372036854775807 := by decide
  rw [h1, h2]
  exact h
theorem keyU {a c : Int} (ha : W64 a) (hc : W64 c) : keyOf Tryz.prog 28 (unitV (a, c)) = some (klU a c) := by
  have h1 : Tryz.prog.keyType 28 = true := by kernel_rfl
  obtain ⟨m, hm⟩ : ∃ m, Tryz.prog.types.size = m + 1 := ⟨Tryz.prog.types.size - 1, by kernel_rfl⟩
  have hc1 : Tryz.prog.cellsOf 28 = 2 := by kernel_rfl
  have hc2 : Tryz.prog.cellsOf 3 = 1 := by kernel_rfl
  have hf : (unitV (a, c)).formed Tryz.prog 28 = true := by
    simp [unitV, Value.formed, Tryz.underlying28, hc1]
  have hl : Tryz.prog.keyLits (Tryz.prog.types.size + 1) 28 (unitV (a, c)).cells.toList = some [.int .i64 a, .int .i64 c] := by
    unfold W64 at ha hc
    rw [hm]
    simp [Program.keyLits, Tryz.underlying28, Tryz.underlying3, unitV, Value.cells, hc1, hc2, ha, hc]
  unfold keyOf
  rw [Tryz.underlying28]
  simp only
  rw [h1, hf, hl]
  rfl
set_option maxRecDepth 100000 in
theorem keyU_inv {v : Value} {l : Lit} (h : keyOf Tryz.prog 28 v = some l) : ∃ a c, v = unitV (a, c) ∧ W64 a ∧ W64 c ∧ l = klU a c := by
  obtain ⟨xs, L, rfl, hL, rfl⟩ := keyOf_top wideUn h
  obtain ⟨m, hm⟩ : ∃ m, Tryz.prog.types.size = m + 1 := ⟨Tryz.prog.types.size - 1, by kernel_rfl⟩
  have hc1 : Tryz.prog.cellsOf 28 = 2 := by kernel_rfl
  have hc2 : Tryz.prog.cellsOf 3 = 1 := by kernel_rfl
  rw [hm] at hL
  have hlen : xs.toList.length = 2 := by
    unfold Program.keyLits at hL
    rw [Tryz.underlying28] at hL
    simp only at hL
    split at hL
    · rename_i h1; rw [h1.1, hc1]
    · cases hL
  obtain ⟨ys⟩ := xs
  match ys, hlen, hL with
  | [x, y], _, hL =>
    cases x <;> cases y
    all_goals (simp [Program.keyLits, Tryz.underlying28, Tryz.underlying3, hc1, hc2] at hL)
    rename_i k1 z1 k2 z2 _
    by_cases p : k1 = IntKind.i64 ∧ (Lit.int IntKind.i64 z1).wf = true
    · by_cases q : k2 = IntKind.i64 ∧ (Lit.int IntKind.i64 z2).wf = true
      · rw [if_pos p, if_pos q] at hL
        simp at hL
        obtain ⟨rfl, p2⟩ := p
        obtain ⟨rfl, q2⟩ := q
        subst hL
        exact ⟨z1, z2, rfl, p2, q2, rfl⟩
      · rw [if_pos p, if_neg q] at hL
        simp at hL
    · rw [if_neg p] at hL
      simp at hL
def dW (h l : Int) : DataW Unit := .agg [.lit (.int .i64 h), .lit (.int .u64 l)]
def rW (v : Value) : Option (DataW Unit × List MemPlace) :=
  match v with
  | .agg xs => (match xs.toList with | [.int .i64 h, .int .u64 l] => some (dW h l, []) | _ => none)
  | _ => none
def wdV (x : Int × Int) : Value := .agg #[.int .i64 x.1, .int .u64 x.2]
theorem rW_mk (h l : Int) : rW (wdV (h, l)) = some (dW h l, []) := rfl
theorem rW_inv {v : Value} {y : DataW Unit × List MemPlace} (h : rW v = some y) : ∃ x : Int × Int, v = wdV x ∧ y = (dW x.1 x.2, []) := by
  unfold rW at h
  split at h
  · rename_i xs
    split at h
    · rename_i h1 l1 e
      injection h with h
      refine ⟨(h1, l1), ?_, h.symm⟩
      unfold wdV
      congr 1
      exact Array.ext' e
    · cases h
  · cases h
theorem dW_inj {a b c d : Int} (h : dW a b = dW c d) : a = c ∧ b = d := by
  unfold dW at h
  simp at h
  exact h
def dZ (z : Int) : DataW Unit := dW (hiN z) (loN z)
theorem klU_key {a c : Int} (ha : W64 a) (hc : W64 c) : WideAt.IsKeyLit (klU a c) := keyed.key (keyU ha hc)
theorem klU_inj {a c a' c' : Int} (ha : W64 a) (hc : W64 c) (ha' : W64 a') (hc' : W64 c') (h : klU a c = klU a' c') : a = a' ∧ c = c' := by
  have h1 := keyU ha hc
  have h2 := keyU ha' hc'
  rw [← h] at h2
  have := keyed.inj h1 h2
  simp [unitV] at this
  exact this
structure MapIs (fs : List Fw) (D : DataW Unit) : Prop where
  isMap : IsMap D
  at_ : ∀ a c, W64 a → W64 c → D.atKey (klU a c) (dZ 0) = dZ (sumU fs a c)
  all : ∀ x ∈ fs, ∀ z, D.atKey (klU x.ac x.cl) z = dZ (sumU fs x.ac x.cl)
  keys : ∀ kl, Maps.has D kl = true → ∃ x ∈ fs, kl = klU x.ac x.cl
  has : ∀ x ∈ fs, Maps.has D (klU x.ac x.cl) = true
  w64 : ∀ x ∈ fs, W64 x.ac ∧ W64 x.cl
theorem MapIs.nil : MapIs [] (.map []) where
  isMap := Maps.isMap_empty
  at_ a c _ _ := by
    rw [Maps.atKey_of_not_has rfl]
    rfl
  all x hx := by cases hx
  keys kl h := by simp [Maps.has] at h
  has x hx := by cases hx
  w64 x hx := by cases hx
theorem MapIs.step {fs : List Fw} {D : DataW Unit} (h : MapIs fs D) (x : Fw) (ha : W64 x.ac) (hc : W64 x.cl) : MapIs (fs ++ [x]) (D.put (klU x.ac x.cl) (dZ (sumU fs x.ac x.cl + x.amt))) := by
  have hs1 : sumU (fs ++ [x]) x.ac x.cl = sumU fs x.ac x.cl + x.amt := by
    rw [sumU_append, sumU_cons, if_pos ((unF_iff _ _ _).2 ⟨rfl, rfl⟩)]; simp [sumU]
  have hs2 : ∀ a c, ¬ (x.ac = a ∧ x.cl = c) → sumU (fs ++ [x]) a c = sumU fs a c := fun a c hn => by
    rw [sumU_append, sumU_cons, if_neg (fun h => hn ((unF_iff _ _ _).1 h))]; simp [sumU]
  refine ⟨h.isMap.put _ _, ?_, ?_, ?_, ?_, ?_⟩
  · intro a c wa wc
    by_cases e : x.ac = a ∧ x.cl = c
    · obtain ⟨rfl, rfl⟩ := e
      rw [Maps.atKey_put_same h.isMap (klU_key ha hc), hs1]
    · rw [Maps.atKey_put_other (fun e2 => e (let ⟨p, q⟩ := klU_inj wa wc ha hc e2; ⟨p.symm, q.symm⟩)), h.at_ a c wa wc, hs2 a c e]
  · intro y hy z
    by_cases e : x.ac = y.ac ∧ x.cl = y.cl
    · rw [← e.1, ← e.2, Maps.atKey_put_same h.isMap (klU_key ha hc), hs1]
    · rcases List.mem_append.1 hy with hy | hy
      · have hw := h.w64 y hy
        rw [Maps.atKey_put_other (fun e2 => e (let ⟨p, q⟩ := klU_inj hw.1 hw.2 ha hc e2; ⟨p.symm, q.symm⟩)), h.all y hy z, hs2 _ _ e]
      · obtain rfl : y = x := by simpa using hy
        exact absurd ⟨rfl, rfl⟩ e
  · intro kl hk
    by_cases e : kl = klU x.ac x.cl
    · exact ⟨x, by simp, e⟩
    · rw [Maps.has_put_other e] at hk
      obtain ⟨y, hy, e2⟩ := h.keys kl hk
      exact ⟨y, by simp [hy], e2⟩
  · intro y hy
    by_cases e : klU y.ac y.cl = klU x.ac x.cl
    · rw [e, Maps.has_put_same h.isMap (klU_key ha hc)]
    · rw [Maps.has_put_other e]
      rcases List.mem_append.1 hy with hy | hy
      · exact h.has y hy
      · obtain rfl : y = x := by simpa using hy
        exact absurd rfl e
  · intro y hy
    rcases List.mem_append.1 hy with hy | hy
    · exact h.w64 y hy
    · obtain rfl : y = x := by simpa using hy
      exact ⟨ha, hc⟩
end Go.Proofs.YtahdmomadbbhoaaGreat
end
section
namespace Go.Proofs
open Go.Shelf
def Tryz.sortFlow_ren : Go.Shelf.Ren := ⟨fun | 6 => 120 | 15 => 127 | 14 => 126 | 28 => 137 | 29 => 138 | 20 => 129 | 21 => 130 | 22 => 131 | 23 => 132 | 24 => 133 | 25 => 134 | 26 => 135 | 27 => 136 | 46 => 140 | 47 => 141 | 48 => 142 | 49 => 143 | 50 => 144 | 57 => 145 | n => n, fun | 22 => 23 | 24 => 86 | 25 => 172 | 3 => 3 | 39 => 131 | 0 => 0 | 53 => 186 | 55 => 54 | 4 => 4 | 46 => 179 | 45 => 178 | 50 => 183 | 5 => 5 | 9 => 9 | 66 => 189 | 70 => 193 | 76 => 195 | 77 => 196 | n => n, fun | n => n⟩
theorem Tryz.sortFlow : Go.Proofs.SlLaysF0.n6 Tryz.prog Tryz.sortFlow_ren := {
  mixed := by kernel_rfl
  f6 := ⟨Tryz.f120.name, by decide, Tryz.func120.trans (congrArg some (by kernel_rfl))⟩
  f14 := ⟨Tryz.f126.name, by decide, Tryz.func126.trans (congrArg some (by kernel_rfl))⟩
  f15 := Tryz.func127.trans (congrArg some (by kernel_rfl))
  f20 := ⟨Tryz.f129.name, by decide, Tryz.func129.trans (congrArg some (by kernel_rfl))⟩
  f21 := ⟨Tryz.f130.name, by decide, Tryz.func130.trans (congrArg some (by kernel_rfl))⟩
  f22 := ⟨Tryz.f131.name, by decide, Tryz.func131.trans (congrArg some (by kernel_rfl))⟩
  f23 := ⟨Tryz.f132.name, by decide, Tryz.func132.trans (congrArg some (by kernel_rfl))⟩
  f24 := ⟨Tryz.f133.name, by decide, Tryz.func133.trans (congrArg some (by kernel_rfl))⟩
  f25 := ⟨Tryz.f134.name, by decide, Tryz.func134.trans (congrArg some (by kernel_rfl))⟩
  f26 := ⟨Tryz.f135.name, by decide, Tryz.func135.trans (congrArg some (by kernel_rfl))⟩
  f27 := ⟨Tryz.f136.name, by decide, Tryz.func136.trans (congrArg some (by kernel_rfl))⟩
  f28 := Tryz.func137.trans (congrArg some (by kernel_rfl))
  f29 := Tryz.func138.trans (congrArg some (by kernel_rfl))
  f46 := ⟨Tryz.f140.name, by decide, Tryz.func140.trans (congrArg some (by kernel_rfl))⟩
  f47 := Tryz.func141.trans (congrArg some (by kernel_rfl))
  f48 := Tryz.func142.trans (congrArg some (by kernel_rfl))
  f49 := ⟨Tryz.f143.name, by decide, Tryz.func143.trans (congrArg some (by kernel_rfl))⟩
  f50 := ⟨Tryz.f144.name, by decide, Tryz.func144.trans (congrArg some (by kernel_rfl))⟩
  f57 := ⟨Tryz.f145.name, by decide, Tryz.func145.trans (congrArg some (by kernel_rfl))⟩
  t0 := Tryz.underlying0
  a0 := Tryz.isAgg0
  z0 := Tryz.sizeOf0
  v0 := Tryz.zeroValue0
  t3 := Tryz.underlying3
  a3 := Tryz.isAgg3
  z3 := Tryz.sizeOf3
  v3 := Tryz.zeroValue3
  t4 := Tryz.underlying4
  a4 := Tryz.isAgg4
  z4 := Tryz.sizeOf4
  v4 := Tryz.zeroValue4
  t5 := Tryz.underlying5
  a5 := Tryz.isAgg5
  z5 := Tryz.sizeOf5
  v5 := Tryz.zeroValue5
  t9 := Tryz.underlying9
  a9 := Tryz.isAgg9
  z9 := Tryz.sizeOf9
  v9 := Tryz.zeroValue9
  t22 := Tryz.underlying23
  a22 := Tryz.isAgg23
  z22 := Tryz.sizeOf23
  v22 := Tryz.zeroValue23
  t25 := Tryz.underlying172
  a25 := Tryz.isAgg172
  z25 := Tryz.sizeOf172
  v25 := Tryz.zeroValue172
  t39 := Tryz.underlying131
  a39 := Tryz.isAgg131
  z39 := Tryz.sizeOf131
  v39 := Tryz.zeroValue131
  t45 := Tryz.underlying178
  a45 := Tryz.isAgg178
  z45 := Tryz.sizeOf178
  v45 := Tryz.zeroValue178
  t46 := Tryz.underlying179
  a46 := Tryz.isAgg179
  z46 := Tryz.sizeOf179
  v46 := Tryz.zeroValue179
  t50 := Tryz.underlying183
  a50 := Tryz.isAgg183
  z50 := Tryz.sizeOf183
  v50 := Tryz.zeroValue183
  t53 := Tryz.underlying186
  a53 := Tryz.isAgg186
  z53 := Tryz.sizeOf186
  v53 := Tryz.zeroValue186
  t55 := Tryz.underlying54
  a55 := Tryz.isAgg54
  z55 := Tryz.sizeOf54
  v55 := Tryz.zeroValue54
  t66 := Tryz.underlying189
  a66 := Tryz.isAgg189
  z66 := Tryz.sizeOf189
  v66 := Tryz.zeroValue189
  t70 := Tryz.underlying193
  a70 := Tryz.isAgg193
  z70 := Tryz.sizeOf193
  v70 := Tryz.zeroValue193
  t76 := Tryz.underlying195
  a76 := Tryz.isAgg195
  z76 := Tryz.sizeOf195
  v76 := Tryz.zeroValue195
  t77 := Tryz.underlying196
  a77 := Tryz.isAgg196
  z77 := Tryz.sizeOf196
  v77 := Tryz.zeroValue196 }
end Go.Proofs
end
