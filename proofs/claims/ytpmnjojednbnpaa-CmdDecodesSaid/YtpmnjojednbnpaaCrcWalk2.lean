/-
  The walks of layer 5, second part: Of, Same, In, lives.
-/
import Derived.Test.YtpmnjojednbnpaaCrcWalk
import Derived.Lib.SlBytesConst
namespace Go.Proofs.Ytpmnjojednbnpaa
open Go.ChangeShapes Go.WideShapes Go.ChangeAt Go.RowKit
set_option linter.unusedVariables false


/-- up to k both rows are the same -/
def Agree (a b : List Nat) (k : Nat) : Prop := ∀ i, i < k → a[i]? = b[i]?
theorem agree_eq {a b : List Nat} (h : Agree a b a.length) (hl : a.length = b.length) : a = b := by
  apply List.ext_getElem? ; intro i
  by_cases hi : i < a.length
  · exact h i hi
  · rw [List.getElem?_eq_none (by omega), List.getElem?_eq_none (by omega)]

set_option maxHeartbeats 400000 in
theorem same_any (A B : Option Addr) (ca cb : Nat) (a b : List Nat) (w : World) (hla : a.length ≤ maxLen) (hlb : b.length ≤ maxLen) (ha : Sl w A (by8 a)) (hb : Sl w B (by8 b)) :
    Calls Try.prog 9 #[.slice A a.length ca, .slice B b.length cb] w fun e w' => e = .returned (.bool (decide (a = b))) ∧ ∃ n, w' = w.drewN n := by
  unfold maxLen at hla hlb
  by_cases hne : a.length = b.length
  · have hd : ((a.length : Int) != (b.length : Int)) = false := by rw [hne]; simp
    have HN := Lib.hid hne
    clear hne
    go_enter Try.func9, Try.ntmps9
    go_wp2
    go_loopw [5] (fun i wr => ∃ k n : Nat, k ≤ a.length ∧ i = .int .i64 k ∧ Agree a b k ∧ wr = w.drewN n) (fun i _ => a.length - (intOf i).toNat)
    case atStart => exact ⟨0, 0, Nat.zero_le _, rfl, (fun i hi => absurd hi (by omega)), rfl⟩
    case round =>
      obtain ⟨k, n, hk, rfl, hag, rfl⟩ := hrel
      have HA := Lib.hid hag
      clear hag
      by_cases hlt : k < a.length
      · have hlt' : k < b.length := by have := HN.out; omega
        obtain ⟨b1, o1, rfl, hz1⟩ := ha.byte hlt
        obtain ⟨b2, o2, rfl, hz2⟩ := hb.byte hlt'
        by_cases he : a[k] = b[k]
        · have he' : ((a[k] : Int) != (b[k] : Int)) = false := by rw [he]; simp
          have HE := Lib.hid he
          clear he
          go_wp2
          go_quiet (fail)
          go_wp2
          go_roundw
          case rel =>
            refine ⟨k + 1, _, by omega, by go_num, fun i hi => ?_, rfl⟩
            by_cases hik : i = k
            · subst hik
              rw [List.getElem?_eq_getElem hlt, List.getElem?_eq_getElem hlt', HE.out]
            · exact HA.out i (by omega)
          case measure => simp [intOf]; omega
        · have he' : ((a[k] : Int) != (b[k] : Int)) = true := by rw [bne_iff_ne]; omega
          have hfin : decide (a = b) = false := by
            rw [decide_eq_false_iff_not]
            rintro rfl
            exact he rfl
          have HF := Lib.hid hfin
          clear hfin he
          go_wp2
          go_quiet (fail)
          go_wp2
          go_ret
          exact ⟨retB HF.out.symm, _, World.drewN_drewN _ _ _⟩
      · obtain rfl : k = a.length := by omega
        have hfin : decide (a = b) = true := decide_eq_true (agree_eq HA.out HN.out)
        have HF := Lib.hid hfin
        clear hfin
        go_wp2
        go_ret
        exact ⟨retB HF.out.symm, n, rfl⟩
  · have hd : ((a.length : Int) != (b.length : Int)) = true := by rw [bne_iff_ne]; omega
    have hfin : decide (a = b) = false := by
      rw [decide_eq_false_iff_not]
      rintro rfl
      exact hne rfl
    have HF := Lib.hid hfin
    clear hfin hne
    go_enter Try.func9, Try.ntmps9
    go_wp2
    go_ret
    exact ⟨retB HF.out.symm, 0, rfl⟩

theorem same_n (A B : Option Addr) (ca cb na nb : Nat) (a b : List Nat) (w : World) (hna : a.length = na) (hnb : b.length = nb) (hla : na ≤ maxLen) (hlb : nb ≤ maxLen) (ha : Sl w A (by8 a)) (hb : Sl w B (by8 b)) :
    Calls Try.prog 9 #[.slice A na ca, .slice B nb cb] w fun e w' => e = .returned (.bool (decide (a = b))) ∧ ∃ n, w' = w.drewN n := by
  subst hna; subst hnb
  exact same_any A B ca cb a b w hla hlb ha hb

/-- a number brought between two -/
def clampI (n lo hi : Int) : Int := if n < lo then lo else if hi < n then hi else n

def nine : List Nat := [49, 50, 51, 52, 53, 54, 55, 56, 57]
theorem nine_sum : CrcM.more 11994318 nine = 2215682 := by decide +kernel
theorem nine_sl (w : World) : Sl (w.alloc (Obj.cells #[Value.int IntKind.u8 49, Value.int IntKind.u8 50, Value.int IntKind.u8 51, Value.int IntKind.u8 52, Value.int IntKind.u8 53, Value.int IntKind.u8 54,
      Value.int IntKind.u8 55, Value.int IntKind.u8 56, Value.int IntKind.u8 57] 5 (9, 10))) (some ⟨w.heap.size, 0, none⟩) (by8 nine) := by
  intro _
  refine ⟨_, _, rfl, fun j u hu => ?_⟩
  rw [Nat.zero_add]
  rw [World.cell?_alloc_mark]
  rw [← hu]
  simp [by8, nine]

end Go.Proofs.Ytpmnjojednbnpaa
