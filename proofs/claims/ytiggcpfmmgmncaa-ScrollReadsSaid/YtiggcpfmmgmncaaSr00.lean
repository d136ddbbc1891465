import Derived.Test.YtiggcpfmmgmncaaSp00
import Derived.Test.YtiggcpfmmgmncaaSp01
import Derived.Test.YtiggcpfmmgmncaaSp02
import Derived.Test.YtiggcpfmmgmncaaSp03
import Derived.Test.YtiggcpfmmgmncaaSp04
import Derived.Test.YtiggcpfmmgmncaaSp05
import Derived.Test.YtiggcpfmmgmncaaSp06
import Derived.Test.YtiggcpfmmgmncaaSp07
import Derived.Test.YtiggcpfmmgmncaaSp08
import Derived.Test.YtiggcpfmmgmncaaSp09
import Derived.Test.YtiggcpfmmgmncaaSp10
import Derived.Test.YtiggcpfmmgmncaaSp11
import Derived.Test.YtiggcpfmmgmncaaSp12
import Derived.Test.YtiggcpfmmgmncaaSp13
import Derived.Test.YtiggcpfmmgmncaaSp14
import Derived.Test.YtiggcpfmmgmncaaSp15
import Derived.Test.YtiggcpfmmgmncaaSp16
import Derived.Test.YtiggcpfmmgmncaaSp17
import Derived.Test.YtiggcpfmmgmncaaSp18
import Derived.Test.YtiggcpfmmgmncaaSp19
import Derived.Test.YtiggcpfmmgmncaaSp20
import Derived.Test.YtiggcpfmmgmncaaSp21
import Derived.Test.YtiggcpfmmgmncaaSp22
import Derived.Test.YtiggcpfmmgmncaaSp23
import Derived.Test.YtiggcpfmmgmncaaSp24
import Derived.Test.YtiggcpfmmgmncaaSp25
import Derived.Test.YtiggcpfmmgmncaaSp26
import Derived.Test.YtiggcpfmmgmncaaSp27
import Derived.Test.YtiggcpfmmgmncaaSp28
import Derived.Test.YtiggcpfmmgmncaaSp29
import Derived.Test.YtiggcpfmmgmncaaSp30
import Derived.Test.YtiggcpfmmgmncaaSp31
import Derived.Test.YtiggcpfmmgmncaaSp32
import Derived.Test.YtiggcpfmmgmncaaSp33
import Derived.Test.YtiggcpfmmgmncaaSp34
import Derived.Test.YtiggcpfmmgmncaaSp35
import Derived.Test.YtiggcpfmmgmncaaSp36
import Derived.Test.YtiggcpfmmgmncaaSp37
import Derived.Test.YtiggcpfmmgmncaaSp38
import Derived.Test.YtiggcpfmmgmncaaSp39
import Derived.Test.YtiggcpfmmgmncaaSp40
import Derived.Test.YtiggcpfmmgmncaaSp41
import Derived.Below
import Derived.BigQuiet
import Derived.ChangeOld
import Derived.Deep.DeepCutAuto
import Derived.Deep.DeepFit
import Derived.Deep.QuietTactic
import Derived.Deep.RegionHeld3
import Derived.Deep.RegionLaw
import Derived.Deep.Slices
import Derived.Laws.AppendOwnNone
import Derived.Laws.BitsAllLaws
import Derived.Laws.CopyOwn
import Derived.Laws.NewBlocks
import Derived.Lib.AppendZerosOnto
import Derived.Lib.Hide
import Derived.Lib.Overlaps
import Derived.Lib.SlBytesConst
import Derived.Lib.SliceRun
import Derived.Maps.AppendAt
import Derived.OpenShut
import Derived.Outline
import Derived.ProofKit
import Derived.ShutString
import Derived.Test.YtiggcpfmmgmncaaRows
import Derived.WalkKit
import Derived.WalkLawsBesides
import Derived.WalkSpells
section
namespace Go.Proofs.Ytiggcpfmmgmncaa
open Go.ChangeShapes Go.WideShapes Go.ChangeAt Go.RowKit
set_option linter.unusedVariables false
set_option linter.unusedSimpArgs false

def pad96 (r : List Nat) : List Nat := splice (List.replicate 96 0) 0 (r.take 96)
theorem pad96_len (r : List Nat) : (pad96 r).length = 96 := by
  unfold pad96
  rw [length_splice _ _ _ (by simp; omega)]; simp
theorem pad96_oct {r : List Nat} (h : Oct r) : Oct (pad96 r) := by
  unfold pad96 splice
  intro x hx
  simp only [List.take_zero, List.nil_append, List.mem_append] at hx
  rcases hx with hx | hx
  · exact h x (List.mem_of_mem_take hx)
  · have := List.mem_of_mem_drop hx
    rw [(List.mem_replicate.1 this).2]; decide
theorem copy_pad (w : World) (m base : Nat) (hown : w.ownsRow base 5 1 (.slice (some ⟨m, 0, none⟩) 96 96) 96 (by8 (List.replicate 96 0))) (hb : base ≤ m) (r : RowS Nat) (hs : Sl w r.A (by8 r.l)) :
    ∃ w', (Builtin.copy_ #[36, 36] 3 #[.slice (some ⟨m, 0, none⟩) 96 96, .slice r.A r.l.length r.c]).run Try.prog w = .ok (goInt ((Nat.min r.l.length 96 : Nat))) w' ∧ w'.ownsRow base 5 1 (.slice (some ⟨m, 0, none⟩) 96 96) 96 (by8 (pad96 r.l)) ∧ Below base w w' ∧ (∀ k, k ≠ m → w'.heap[k]? = w.heap[k]?) := by
  rcases Nat.eq_zero_or_pos r.l.length with h0 | h0
  · have hl : r.l = [] := List.eq_nil_of_length_eq_zero h0
    have hrun := run_copy_none (P := Try.prog) w 36 36 3 5 (some ⟨m, 0, none⟩) r.A 96 96 r.l.length r.c ED8.und (by kernel_rfl) (by rw [h0]; rfl)
    refine ⟨w, ?_, ?_, Below.refl _ _, fun _ _ => rfl⟩
    · rw [hrun, h0]; rfl
    · rw [hl]
      exact hown
  · obtain ⟨b, o, hA, hc⟩ := hs (by intro e; have := congrArg List.length e; rw [by8_length] at this; simp at this; rw [this] at h0; simp at h0)
    have hg := heap_of_own hown
    have hm : (r.l.take 96).length = Nat.min r.l.length 96 := by rw [List.length_take]; exact Nat.min_comm _ _
    have hrun := run_copy8 w m 0 96 96 ⟨b, o, none⟩ r.l.length r.c (List.replicate 96 0) (r.l.take 96) 5 hg hm (fun j v hj => by
      rw [addr_add]
      refine hc j v ?_
      rw [by8_take, List.getElem?_take] at hj
      split at hj
      · exact hj
      · cases hj) (by rw [List.length_replicate, hm, Nat.zero_add]; exact Nat.min_le_right _ _)
    rw [hm] at hrun
    refine ⟨_, by rw [hA]; exact hrun, ?_, below_setRow (Below.refl _ _) hb _, fun k hk => setRow_other w m k _ hk⟩
    exact own_of_heap (setRow_heap w m _ _ _ _ hg) (by rw [by8_length]; exact pad96_len _) hb (by unfold maxLen; omega)
def cellsL (L : List (List Nat)) : List (List Nat) := (L.take 40).map pad96
set_option maxHeartbeats 4000000 in
set_option maxRecDepth 100000 in
theorem cells6_any (A : Option Addr) (c : Nat) (L : List (RowS Nat)) (w : World) (hl : L.length ≤ maxLen) (hs : Sl w A (rc RowS.cells L)) (hr : ∀ r ∈ L, Sl w r.A (by8 r.l) ∧ r.l.length ≤ maxLen) :
    Calls Try.prog 65 #[.slice A L.length c] w fun e w' => (∃ (A' : Option Addr) (c' : Nat) (S : List (RowS Nat)), e = .returned (.slice A' S.length c') ∧ w'.ownsRow w.heap.size 36 1 (.slice A' S.length c') S.length (rc RowS.cells S) ∧ S.map RowS.l = cellsL (L.map RowS.l) ∧ OwnR w.heap.size w' S) ∧ Below w.heap.size w w' := by
  have HS := Lib.hid hs
  have HR := Lib.hid (fun k (hk : k < L.length) => hr L[k] (List.getElem_mem hk))
  clear hs hr
  go_enter Try.func65, Try.ntmps65
  go_wp2_with fail
  go_loopw [3, 4] (fun bv iv wr => ∃ (k : Nat) (A2 : Option Addr) (c2 : Nat) (S2 : List (RowS Nat)), k ≤ L.length ∧ k ≤ 40 ∧ S2.length = k ∧ bv = .slice A2 S2.length c2 ∧ iv = .int .i64 k ∧ Hid (wr.ownsRow w.heap.size 36 1 (.slice A2 S2.length c2) S2.length (rc RowS.cells S2)) ∧ Hid (S2.map RowS.l = ((L.map RowS.l).take k).map pad96) ∧ Hid (OwnR w.heap.size wr S2) ∧ Below w.heap.size w wr) (fun _ iv _ => 40 - (intOf iv).toNat)
  case atStart => exact ⟨0, none, 0, [], Nat.zero_le _, Nat.zero_le _, rfl, rfl, rfl, own_nil _ _ _, rfl, (fun s hs => by cases hs), Below.refl _ _⟩
  case round =>
    obtain ⟨k, A2, c2, S2, hk, hk40, hSk, rfl, rfl, HOWN, HMAP, HOW, hB⟩ := hrel
    rw [hSk] at HOWN ⊢
    have HSK := Lib.hid hSk
    clear hSk
    by_cases hlt : k < L.length
    · by_cases h40 : k < 40
      · have hlk : (k : Int) < (L.length : Int) := by omega
        have hlk4 : (k : Int) < 40 := by omega
        have hgk : (0 : Int) ≤ (k : Int) := by omega
        obtain ⟨b, o, hA, hbw, hg⟩ := HS.out.rowS hlt
        subst hA
        obtain ⟨hrs, hrl⟩ := HR.out k hlt
        obtain ⟨r, hrr⟩ : ∃ r, L[k] = r := ⟨_, rfl⟩
        have HRE : Hid ((L.map RowS.l).take (k + 1) = (L.map RowS.l).take k ++ [r.l]) := Lib.hid (by rw [List.take_succ_eq_append_getElem (by simpa using hlt)]; simp [hrr])
        rw [hrr] at hg hrs hrl
        clear hrr
        have hgr := (hB.cell (p := ⟨b, o + k, none⟩) hbw).trans hg
        have hbr : b < wr.heap.size := Nat.lt_of_lt_of_le hbw hB.size
        have HRS := Lib.hid hrs
        clear hg hrs
        go_wp2_with (first
          | (at_make; refine wpList_z8 rfl (.const (.int .i64 96)) (.const (.int .i64 96)) rfl 96 rfl rfl rfl rfl (by omega) (Nat.le_refl _) ?_; intro w3 own3 hb3; have hgr3 := (hb3.cell (p := ⟨b, o + k, none⟩) hbr).trans hgr; have hbr3 : b < w3.heap.size := Nat.lt_of_lt_of_le hbr hb3.size)
          | fail)
        have hB3 := since_step hB hb3
        obtain ⟨w4, hrun, own4, hb4, hk4⟩ := copy_pad w3 wr.heap.size wr.heap.size own3 (Nat.le_refl _) r (HRS.out.below hB3)
        have HR4 := Lib.hid hrun
        have hB4 := hB.trans ((hb3.trans hb4).mono hB.size)
        have hBk4 := hb3.trans hb4
        have HOW4 : Hid (OwnR w.heap.size w4 S2) := Lib.hid (HOW.out.below hBk4)
        have HOWN4 := Lib.hid (own_below HOWN.out hBk4)
        have hsz4 : w.heap.size ≤ w4.heap.size := hB4.size
        have HO4 := Lib.hid (own_base own4 hB.size)
        clear hrun own4 hb4 hk4 own3 hb3 hBk4 hgr3 hbr3 hB3 hgr
        rw [HR4.out, Result.andThen_ok, Oper.upon_value]
        have HAP : Hid (w4.heap.size = w4.heap.size) := rfl
        go_wp2_with (first
          | (at_builtin; refine wpList_app rfl (.tmp 23) (.tmp 25) rfl EDR rfl rfl (HOWN4.out.alloc _) (m := 1) (news := [.slice (some ⟨wr.heap.size, 0, none⟩) 96 96]) rfl (Sl.new_ _ _ _) (fun u hu => by simp only [List.mem_cons, List.not_mem_nil, or_false] at hu; subst hu; rfl) (by unfold maxLen; omega) (by omega) (by simp only [World.size_alloc]; omega) ?_; intro A5 c5 w5 own5 hg5 hb5)
          | fail)
        have hB5 := (hB4.alloc hsz4 _).trans hb5
        have HOW5 : Hid (OwnR w.heap.size w5 (S2 ++ [(⟨some ⟨wr.heap.size, 0, none⟩, 96, pad96 r.l⟩ : RowS Nat)])) := Lib.hid (fun s hs => by
          have key : ∀ (v : Value) (n : Nat) (xs : List Value), w4.ownsRow w.heap.size 5 1 v n xs → w5.ownsRow w.heap.size 5 1 v n xs := fun v n xs h => own_kept_types (by decide) (h.alloc _) (HOWN4.out.alloc _) hg5
          rcases List.mem_append.1 hs with h | h
          · exact key _ _ _ (HOW4.out s h)
          · rw [List.mem_singleton] at h
            subst h
            have := key _ _ _ HO4.out
            simpa [pad96_len] using this)
        have HMAP5 : Hid ((S2 ++ [(⟨some ⟨wr.heap.size, 0, none⟩, 96, pad96 r.l⟩ : RowS Nat)]).map RowS.l = ((L.map RowS.l).take (k + 1)).map pad96) := Lib.hid (by rw [HRE.out, List.map_append, List.map_append, HMAP.out]; rfl)
        have HL5 : Hid ((S2 ++ [(⟨some ⟨wr.heap.size, 0, none⟩, 96, pad96 r.l⟩ : RowS Nat)]).length = k + 1) := Lib.hid (by rw [List.length_append, HSK.out]; rfl)
        have HOWN5 : Hid (w5.ownsRow w.heap.size 36 1 (.slice A5 (k + 1) c5) (k + 1) (rc RowS.cells (S2 ++ [(⟨some ⟨wr.heap.size, 0, none⟩, 96, pad96 r.l⟩ : RowS Nat)]))) := Lib.hid (by
          have e : rc RowS.cells (S2 ++ [(⟨some ⟨wr.heap.size, 0, none⟩, 96, pad96 r.l⟩ : RowS Nat)]) = rc RowS.cells S2 ++ [.slice (some ⟨wr.heap.size, 0, none⟩) 96 96] := by
            rw [rc_append]
            simp [rc, RowS.cells, pad96_len]
          rw [e]; exact own5)
        clear own5 hg5 hb5
        go_roundw
        case rel => exact ⟨k + 1, A5, c5, S2 ++ [(⟨some ⟨wr.heap.size, 0, none⟩, 96, pad96 r.l⟩ : RowS Nat)], by omega, by omega, HL5.out, by rw [HL5.out], by go_num, by rw [HL5.out]; exact HOWN5, HMAP5, HOW5, hB5⟩
        case measure => simp [intOf]; omega
      · obtain rfl : k = 40 := by omega
        have hlk : (40 : Int) < (L.length : Int) := by omega
        have hlk4 : ¬ (40 : Int) < 40 := by omega
        have hl40 : ¬ (((40 : Nat) : Int) < 40) := by omega
        go_wp2_with fail
        go_ret
        exact ⟨⟨A2, c2, S2, by rw [HSK.out]; rfl, by rw [HSK.out]; exact HOWN.out, HMAP.out, HOW.out⟩, hB⟩
    · obtain rfl : k = L.length := by omega
      have hlk : ¬ (L.length : Int) < (L.length : Int) := by omega
      go_wp2_with fail
      go_ret
      refine ⟨⟨A2, c2, S2, by rw [HSK.out]; rfl, by rw [HSK.out]; exact HOWN.out, ?_, HOW.out⟩, hB⟩
      rw [HMAP.out, cellsL, List.take_of_length_le (by simp), List.take_of_length_le (by simpa using hk40)]
end Go.Proofs.Ytiggcpfmmgmncaa
end
