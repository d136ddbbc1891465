/-
  Layer 16, first part: units' order, the closures, Is, Few, Same; plain mathematics of a put.
-/
import Derived.Test.YtniapgcohihkhaaChV
import Derived.Test.YtniapgcohihkhaaRowM
namespace Go.Proofs.Ytniapgcohihkhaa
open Go.ChangeShapes Go.WideShapes Go.ChangeAt Go.RowKit
set_option linter.unusedVariables false
set_option linter.unusedSimpArgs false

def ltU (a c a' c' : Int) : Bool := decide (a < a') || (a == a' && decide (c < c'))
def ahC (x y : Ch) : Bool := ltU x.fa x.fc y.fa y.fc
def selfC (x : Ch) : Bool := x.fa == x.ta && x.fc == x.tc
def ofC (a c : Int) (x : Ch) : Bool := x.fa == a && x.fc == c
def isC (l : List Ch) : Bool := l.all (fun x => !selfC x) && risingL ahC l

set_option maxHeartbeats 1000000 in
theorem less_any (a c a' c' : Int) (w : World) :
    Calls Try.prog 71 #[.agg #[.int .i64 a, .int .i64 c], .agg #[.int .i64 a', .int .i64 c']] w fun e w' => e = .returned (.bool (ltU a c a' c')) ∧ Below w.heap.size w w' := by
  have hB := since_alloc (since_alloc (Below.refl _ w) (.cells #[.int .i64 a, .int .i64 c] 44)) (.cells #[.int .i64 a', .int .i64 c'] 44)
  by_cases h1 : a < a'
  · have e : ltU a c a' c' = true := by simp [ltU, h1]
    rw [e]
    clear e
    go_enter Try.func71, Try.ntmps71
    go_wp2
    go_ret
    exact ⟨rfl, hB⟩
  · have hd1 : decide (a < a') = false := by simpa using h1
    by_cases h2 : a = a'
    · subst h2
      by_cases h3 : c < c'
      · have e : ltU a c a c' = true := by simp [ltU, h3]
        rw [e]
        have hd3 : decide (c < c') = true := by simpa using h3
        have hd2 : (a == a) = true := by simp
        clear e h1 h3
        go_enter Try.func71, Try.ntmps71
        go_wp2
        go_ret
        exact ⟨rfl, hB⟩
      · have e : ltU a c a c' = false := by simp [ltU, h3]
        rw [e]
        have hd3 : decide (c < c') = false := by simpa using h3
        have hd2 : (a == a) = true := by simp
        clear e h1 h3
        go_enter Try.func71, Try.ntmps71
        go_wp2
        go_ret
        exact ⟨rfl, hB⟩
    · have e : ltU a c a' c' = false := by simp [ltU, h1, h2]
      rw [e]
      have hd2 : (a == a') = false := by simpa using h2
      clear e h1 h2
      go_enter Try.func71, Try.ntmps71
      go_wp2
      go_ret
      exact ⟨rfl, hB⟩

set_option maxHeartbeats 1000000 in
theorem rless_any (a c a' c' : Int) (w : World) :
    Calls Try.prog 49 #[.agg #[.int .i64 a, .int .i64 c], .agg #[.int .i64 a', .int .i64 c']] w fun e w' => e = .returned (.bool (ltU a c a' c')) ∧ Below w.heap.size w w' := by
  have hB := since_alloc (since_alloc (Below.refl _ w) (.cells #[.int .i64 a, .int .i64 c] 44)) (.cells #[.int .i64 a', .int .i64 c'] 44)
  by_cases h1 : a < a'
  · have e : ltU a c a' c' = true := by simp [ltU, h1]
    rw [e]
    clear e
    go_enter Try.func49, Try.ntmps49
    go_wp2
    go_ret
    exact ⟨rfl, hB⟩
  · have hd1 : decide (a < a') = false := by simpa using h1
    by_cases h2 : a = a'
    · subst h2
      by_cases h3 : c < c'
      · have e : ltU a c a c' = true := by simp [ltU, h3]
        rw [e]
        have hd3 : decide (c < c') = true := by simpa using h3
        have hd2 : (a == a) = true := by simp
        clear e h1 h3
        go_enter Try.func49, Try.ntmps49
        go_wp2
        go_ret
        exact ⟨rfl, hB⟩
      · have e : ltU a c a c' = false := by simp [ltU, h3]
        rw [e]
        have hd3 : decide (c < c') = false := by simpa using h3
        have hd2 : (a == a) = true := by simp
        clear e h1 h3
        go_enter Try.func49, Try.ntmps49
        go_wp2
        go_ret
        exact ⟨rfl, hB⟩
    · have e : ltU a c a' c' = false := by simp [ltU, h1, h2]
      rw [e]
      have hd2 : (a == a') = false := by simpa using h2
      clear e h1 h2
      go_enter Try.func49, Try.ntmps49
      go_wp2
      go_ret
      exact ⟨rfl, hB⟩


def unitV (a c : Int) : Value := .agg #[.int .i64 a, .int .i64 c]

set_option maxHeartbeats 1000000 in
theorem ahead_any (x y : Ch) (w : World) :
    Calls Try.prog 48 #[x.val, y.val] w fun e w' => e = .returned (.bool (ahC x y)) ∧ Below w.heap.size w w' := by
  have hB := since_alloc (since_alloc (Below.refl _ w) (.cells x.cells.toArray 54)) (.cells y.cells.toArray 54)
  unfold Ch.val
  go_enter Try.func48, Try.ntmps48
  go_wp2_with fail
  refine (less_any x.fa x.fc y.fa y.fc _).mono ?_
  rintro e w1 ⟨rfl, hb1⟩
  have hB1 := since_step hB hb1
  clear hb1
  go_wp2_with fail
  go_ret
  exact ⟨rfl, hB1⟩
theorem ent_ahead : Ent Try.prog 48 := Ent.of (by kernel_rfl)
theorem tells_ahead (B : Nat) (w : World) : Ch.Tells2 48 #[] ahC B w := fun a b W _ => ahead_any a b W

set_option maxHeartbeats 1000000 in
theorem of1_any (x : Ch) (a c : Int) (b : Nat) (w : World) (h0 : w.cell? ⟨b, 0, none⟩ = some (.int .i64 a)) (h1 : w.cell? ⟨b, 1, none⟩ = some (.int .i64 c)) :
    Calls Try.prog 74 #[x.val, .pointer (some ⟨b, 0, none⟩)] w fun e w' => e = .returned (.bool (ofC a c x)) ∧ Below w.heap.size w w' := by
  have hB := since_alloc (Below.refl _ w) (.cells x.cells.toArray 54)
  have hlt := World.block_lt_of_cell? _ _ h0
  unfold Ch.val
  go_enter Try.func74, Try.ntmps74
  clear hB
  go_wp2_with fail
  all_goals
    go_ret
    exact ⟨retB (by simp [ofC, *]), since_alloc (Below.refl _ w) _⟩
theorem ent_of1 : Ent Try.prog 74 := Ent.of (by kernel_rfl)
/-- a unit's box -/
def UAt (w : World) (b : Nat) (a c : Int) : Prop := b < w.heap.size ∧ w.cell? ⟨b, 0, none⟩ = some (.int .i64 a) ∧ w.cell? ⟨b, 1, none⟩ = some (.int .i64 c)
theorem UAt.new (w : World) (a c : Int) (t : TypeId) : UAt (w.alloc (.cells #[.int .i64 a, .int .i64 c] t)) w.heap.size a c :=
  ⟨by simp, by rw [World.cell?_alloc_new]; rfl, by rw [World.cell?_alloc_new]; rfl⟩
theorem UAt.below {w w' : World} {b : Nat} {a c : Int} (h : UAt w b a c) (hb : Below w.heap.size w w') : UAt w' b a c :=
  ⟨Nat.lt_of_lt_of_le h.1 hb.size, (hb.cell (p := ⟨b, 0, none⟩) h.1).trans h.2.1, (hb.cell (p := ⟨b, 1, none⟩) h.1).trans h.2.2⟩
theorem tells_of (a c : Int) (b : Nat) (w : World) (h : UAt w b a c) : Ch.Tells 74 #[.pointer (some ⟨b, 0, none⟩)] (ofC a c) w.heap.size w :=
  fun x W hW => of1_any x a c b W (h.below hW).2.1 (h.below hW).2.2
set_option maxHeartbeats 1000000 in
theorem of_any (a c : Int) (w : World) :
    Calls Try.prog 51 #[unitV a c] w fun e w' => (∃ b, e = .returned (.func (.func 74) #[] #[.pointer (some ⟨b, 0, none⟩)]) ∧ UAt w' b a c) ∧ Below w.heap.size w w' := by
  unfold unitV
  have hB := since_alloc (Below.refl _ w) (.cells #[.int .i64 a, .int .i64 c] 44)
  have hU := UAt.new w a c 44
  go_enter Try.func51, Try.ntmps51
  go_wp2_with fail
  go_ret
  exact ⟨⟨_, rfl, hU⟩, hB⟩

set_option maxHeartbeats 1000000 in
theorem few_any (A : Option Addr) (cap : Nat) (l : List Ch) (w : World) (hc : l.length ≤ cap) (hcm : cap ≤ maxLen) (hs : Sl w A (rc Ch.cells l)) :
    Calls Try.prog 24 #[.slice A l.length cap] w fun e w' => e = .returned (.slice A (l.take 20).length cap) ∧ w = w' := by
  unfold maxLen at hcm
  by_cases h : 20 < l.length
  · have e : (l.take 20).length = 20 := by simp; omega
    rw [e]
    obtain ⟨b, o, rfl, _⟩ := hs.ch (k := 0) (by omega)
    have h20 : 20 ≤ cap := by omega
    clear e hs
    go_enter Try.func24, Try.ntmps24
    go_wp2_with fail
    go_ret
    exact ⟨rfl, rfl⟩
  · have e : (l.take 20).length = l.length := by simp; omega
    rw [e]
    clear e hs
    go_enter Try.func24, Try.ntmps24
    go_wp2_with fail
    go_ret
    exact ⟨rfl, rfl⟩
end Go.Proofs.Ytniapgcohihkhaa
