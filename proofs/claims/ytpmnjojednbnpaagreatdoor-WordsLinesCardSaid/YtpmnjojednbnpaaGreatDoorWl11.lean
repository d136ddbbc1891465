import Derived.Test.YtpmnjojednbnpaaGreatDoorWr00
import Derived.Test.YtpmnjojednbnpaaGreatDoorWr01
import Derived.Test.YtpmnjojednbnpaaGreatDoorWr02
import Derived.Test.YtpmnjojednbnpaaGreatDoorWr03
import Derived.Test.YtpmnjojednbnpaaGreatDoorWr04
import Derived.Test.YtpmnjojednbnpaaGreatDoorWr05
import Derived.Test.YtpmnjojednbnpaaGreatDoorWr06
import Derived.Test.YtpmnjojednbnpaaGreatDoorWr07
import Derived.Test.YtpmnjojednbnpaaGreatDoorWr08
import Derived.Test.YtpmnjojednbnpaaGreatDoorWr09
import Derived.Test.YtpmnjojednbnpaaGreatDoorWr10
import Derived.Test.YtpmnjojednbnpaaGreatDoorWr11
import Derived.Test.YtpmnjojednbnpaaGreatDoorWr12
import Derived.Test.YtpmnjojednbnpaaGreatDoorWr13
import Derived.Test.YtpmnjojednbnpaaGreatDoorWr14
import Derived.Test.YtpmnjojednbnpaaGreatDoorWr15
import Derived.Test.YtpmnjojednbnpaaGreatDoorWr16
import Derived.Test.YtpmnjojednbnpaaGreatDoorWr17
import Derived.Test.YtpmnjojednbnpaaGreatDoorWr18
import Derived.Test.YtpmnjojednbnpaaGreatDoorWr19
import Derived.Test.YtpmnjojednbnpaaGreatDoorWr20
import Derived.Test.YtpmnjojednbnpaaGreatDoorWr21
import Derived.Test.YtpmnjojednbnpaaGreatDoorWr22
import Derived.Test.YtpmnjojednbnpaaGreatDoorWr23
import Derived.Test.YtpmnjojednbnpaaGreatDoorWl06
import Derived.Test.YtpmnjojednbnpaaGreatDoorWl07
import Derived.Test.YtpmnjojednbnpaaGreatDoorWl08
import Derived.Test.YtpmnjojednbnpaaGreatDoorWl09
import Derived.Test.YtpmnjojednbnpaaGreatDoorWl10
import Derived.Below
import Derived.BigQuiet
import Derived.ChangeOld
import Derived.Deep.AppendSrc
import Derived.Deep.CutBlock
import Derived.Deep.CutRange
import Derived.Deep.DeepCutAuto
import Derived.Deep.DeepFit
import Derived.Deep.QuietTactic
import Derived.Deep.Slices
import Derived.Deep.Upon
import Derived.Laws.AppendOwnNone
import Derived.Laws.BitsAllLaws
import Derived.Laws.CopyOwn
import Derived.Laws.NewBlocks
import Derived.Lib.AppendZerosOnto
import Derived.Lib.Builder
import Derived.Lib.Hide
import Derived.Lib.Overlaps
import Derived.Lib.SlBytesConst
import Derived.Maps.AppendAt
import Derived.OpenShut
import Derived.Outline
import Derived.ProofKit
import Derived.ShutString
import Derived.Test.YtpmnjojednbnpaaGreatDoorRows
import Derived.WalkKit
import Derived.WalkLawsBesides
import Derived.WalkSpells
import Derived.Test.YtpmnjojednbnpaaGreatDoorWl00
import Derived.Test.YtpmnjojednbnpaaGreatDoorWl03
section
namespace Go.Proofs.YtpmnjojednbnpaaGreatDoor
open Go.ChangeShapes Go.WideShapes Go.ChangeAt Go.RowKit
set_option linter.unusedVariables false

theorem rparseD (l : List UInt8) (w : World) (hl : l.length ≤ 900) :
    Calls Tryz.prog 11 #[.string (S8 l)] w fun e w' => DPR w' e (docC l) ∧ Below w.heap.size w w' := by
  cases h : docR l with
  | none =>
    by_cases hw : (splD 32 l).length ≤ (fldL (opB ((splD 32 l).headD []))).length + 1
    · exact rparseD_n l w hl h hw
    · exact rparseD_m l w hl h hw
  | some d0 =>
    cases h2 : endR (some d0) with
    | none =>
      by_cases hp : d0.P = []
      · exact rparseD_c l w hl d0 h h2 hp
      · exact rparseD_b l w hl d0 h h2 hp
    | some d1 => exact rparseD_g l w hl d0 d1 h h2
end Go.Proofs.YtpmnjojednbnpaaGreatDoor
end
section
namespace Go.Proofs.YtpmnjojednbnpaaGreatDoor
open Go.ChangeShapes Go.WideShapes Go.ChangeAt Go.RowKit
set_option linter.unusedVariables false
set_option linter.unusedSimpArgs false

section
variable {w w' : World} {g : Nat} {A A' : Option Addr} {c c' : Nat} {B B' : List Nat} {er : Int}
theorem Rq.belowW {W : Nat} (h : Rq w g A c B er) (hb : Below W w w') (hg : g < W) : Rq w' g A c B er := by
  refine ⟨by rw [hb.block g hg]; exact h.blk, ?_, h.cap, h.cm, h.far, h.oct⟩
  by_cases hB : B = []
  · rw [hB]; exact Sl.nil
  · intro hne
    obtain ⟨b, o, hA, hc⟩ := h.sl hne
    have hlt := h.far hB b o hA
    exact ⟨b, o, hA, fun j u hu => (hb.cell (p := ⟨b, o + j, none⟩) (Nat.lt_trans hlt hg)).trans (hc j u hu)⟩
end
end Go.Proofs.YtpmnjojednbnpaaGreatDoor
end
section
namespace Go.Proofs.YtpmnjojednbnpaaGreatDoor
open Go.ChangeShapes Go.WideShapes Go.ChangeAt Go.RowKit
set_option linter.unusedVariables false
set_option linter.unusedSimpArgs false

theorem rd_cmd {w : World} {a : Array Value} (h : Go.Proofs.YtpmnjojednbnpaaGreatDoor.Rd w (.cat (.int .i64) (.cat (.int .i64) (.cat (.int .i64) (.cat (.cat (.int .i64) (.cat (.int .i64) .nil)) (.cat (.cat (.int .i64) (.cat (.int .i64) .nil)) (.cat (.int .i64) (.cat (.int .i64) (.cat (.int .i64) (.cat (.int .i64) (.cat (.int .i64) (.cat (.int .i64) (.cat (.sl (.int .i64)) .nil)))))))))))) a.toList) : ∃ (z0 z1 z2 z3 z4 z5 z6 z7 z8 z9 z10 z11 z12 : Int) (A : Option Addr) (cap : Nat) (nums : List Int), a = #[.int .i64 z0, .int .i64 z1, .int .i64 z2, .int .i64 z3, .int .i64 z4, .int .i64 z5, .int .i64 z6, .int .i64 z7, .int .i64 z8, .int .i64 z9, .int .i64 z10, .int .i64 z11, .int .i64 z12, .slice A nums.length cap] ∧ (∀ i, In64p (([z0, z1, z2, z3, z4, z5, z6, z7, z8, z9, z10, z11, z12] : List Int).getD i 0)) ∧ nums.length ≤ cap ∧ cap ≤ maxLen ∧ Sl w A (ints .i64 nums) ∧ ∀ x ∈ nums, In64p x := by
  obtain ⟨r, hr⟩ : ∃ r, a.toList = r := ⟨_, rfl⟩
  rw [hr] at h
  have ha : a = r.toArray := by rw [← hr]
  obtain ⟨p0, q0, rfl, h0, p1, q1, rfl, h1, p2, q2, rfl, h2, p3, q3, rfl, ⟨p4, q4, rfl, h4, p5, q5, rfl, h5, rfl⟩, p6, q6, rfl, ⟨p7, q7, rfl, h7, p8, q8, rfl, h8, rfl⟩, p9, q9, rfl, h9, pa, qa, rfl, h10, pb, qb, rfl, h11, pc, qc, rfl, h12, pd, qd, rfl, h13, pe, qe, rfl, h14, pf, qf, rfl, hsl, rfl⟩ := h
  obtain ⟨z0, rfl, i0⟩ := rd_int h0
  obtain ⟨z1, rfl, i1⟩ := rd_int h1
  obtain ⟨z2, rfl, i2⟩ := rd_int h2
  obtain ⟨z3, rfl, i3⟩ := rd_int h4
  obtain ⟨z4, rfl, i4⟩ := rd_int h5
  obtain ⟨z5, rfl, i5⟩ := rd_int h7
  obtain ⟨z6, rfl, i6⟩ := rd_int h8
  obtain ⟨z7, rfl, i7⟩ := rd_int h9
  obtain ⟨z8, rfl, i8⟩ := rd_int h10
  obtain ⟨z9, rfl, i9⟩ := rd_int h11
  obtain ⟨z10, rfl, i10⟩ := rd_int h12
  obtain ⟨z11, rfl, i11⟩ := rd_int h13
  obtain ⟨z12, rfl, i12⟩ := rd_int h14
  obtain ⟨A', n', c', e2⟩ : ∃ A' n' c', pf = [.slice A' n' c'] := by
    obtain ⟨A', n', c', rows, e2, _⟩ := hsl
    exact ⟨A', n', c', e2⟩
  subst e2
  obtain ⟨l, g1, g2, g3, g4, g5⟩ := rd_rowsP (f := fun n : Int => [Value.int .i64 n]) (fun r => rd_int) hsl
  subst g1
  rw [rc_int] at g4
  refine ⟨z0, z1, z2, z3, z4, z5, z6, z7, z8, z9, z10, z11, z12, A', c', l, ha, fun i => ?_, g2, g3, g4, g5⟩
  match i with
  | 0 => exact i0
  | 1 => exact i1
  | 2 => exact i2
  | 3 => exact i3
  | 4 => exact i4
  | 5 => exact i5
  | 6 => exact i6
  | 7 => exact i7
  | 8 => exact i8
  | 9 => exact i9
  | 10 => exact i10
  | 11 => exact i11
  | 12 => exact i12
  | i + 13 =>
    rw [List.getD_eq_getElem?_getD, List.getElem?_eq_none (by simp)]
    exact ⟨by decide, by decide⟩
set_option maxHeartbeats 4000000 in
set_option maxRecDepth 100000 in
theorem short34 (z0 z1 z2 z3 z4 z5 z6 z7 z8 z9 z10 z11 z12 : Int) (A : Option Addr) (n cap : Nat) (w : World) (hn : n ≤ cap) (hc : cap ≤ maxLen) (hA : 40 < n → A ≠ none) :
    Calls Tryz.prog 6 #[.agg #[.int .i64 z0, .int .i64 z1, .int .i64 z2, .int .i64 z3, .int .i64 z4, .int .i64 z5, .int .i64 z6, .int .i64 z7, .int .i64 z8, .int .i64 z9, .int .i64 z10, .int .i64 z11, .int .i64 z12, .slice A n cap]] w fun e w' => e = .returned (.agg #[.int .i64 z0, .int .i64 z1, .int .i64 z2, .int .i64 z3, .int .i64 z4, .int .i64 z5, .int .i64 z6, .int .i64 z7, .int .i64 z8, .int .i64 z9, .int .i64 z10, .int .i64 z11, .int .i64 z12, .slice A (min n 40) cap]) ∧ Below w.heap.size w w' := by
  unfold maxLen at hc
  by_cases h40 : 40 < n
  · have e : min n 40 = 40 := by omega
    rw [e]
    have h40i : (40 : Int) < (n : Int) := by omega
    have hci : (40 : Int) ≤ (cap : Int) := by omega
    obtain ⟨a, ha⟩ : ∃ a, A = some a := by
      cases A with
      | none => exact absurd rfl (hA h40)
      | some a => exact ⟨a, rfl⟩
    subst ha
    clear e hA
    go_enter Tryz.func6, Tryz.ntmps6
    go_wp2_with fail
    refine bodyPost_ret (v := .agg #[.int .i64 z0, .int .i64 z1, .int .i64 z2, .int .i64 z3, .int .i64 z4, .int .i64 z5, .int .i64 z6, .int .i64 z7, .int .i64 z8, .int .i64 z9, .int .i64 z10, .int .i64 z11, .int .i64 z12, .slice (some a) 40 cap]) ?_ rfl ⟨rfl, since_alloc (since_alloc (Below.refl _ _) _) _⟩
    simp [results, Tryz.results6, go_sem]
  · have e : min n 40 = n := by omega
    rw [e]
    have h40i : ¬ (40 : Int) < (n : Int) := by omega
    clear e hA h40
    go_enter Tryz.func6, Tryz.ntmps6
    go_wp2_with fail
    refine bodyPost_ret (v := .agg #[.int .i64 z0, .int .i64 z1, .int .i64 z2, .int .i64 z3, .int .i64 z4, .int .i64 z5, .int .i64 z6, .int .i64 z7, .int .i64 z8, .int .i64 z9, .int .i64 z10, .int .i64 z11, .int .i64 z12, .slice A (n) cap]) ?_ rfl ⟨rfl, since_alloc (since_alloc (Below.refl _ _) _) _⟩
    simp [results, Tryz.results6, go_sem]
end Go.Proofs.YtpmnjojednbnpaaGreatDoor
end
section
namespace Go.Proofs.YtpmnjojednbnpaaGreatDoor
open Go.ChangeShapes Go.WideShapes Go.ChangeAt Go.RowKit
set_option linter.unusedVariables false
set_option linter.unusedSimpArgs false

theorem rparse40 (l : List UInt8) (w : World) (hl : l.length ≤ 900) :
    Calls Tryz.prog 11 #[.string (S8 l)] w fun e w' => PRes w' e (okP l) (parseZ l).z (parseZ l).nums ∧ Below w.heap.size w w' := by
  refine (rparseD l w hl).mono fun e w' h => ⟨?_, h.2⟩
  have h1 := h.1
  rw [docC_ok] at h1
  unfold PRes
  by_cases hk : okP l = true
  · rw [if_pos hk] at h1 ⊢
    exact h1
  · rw [if_neg hk] at h1 ⊢
    exact h1
end Go.Proofs.YtpmnjojednbnpaaGreatDoor
end
